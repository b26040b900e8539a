/- Contract of the reference: the error of a number. -/
import Derived.Test.YtneafcdfnhnpnaaGreatDoorZK25
set_option maxRecDepth 100000
set_option maxHeartbeats 4000000
namespace Go.Proofs.YtneafcdfnhnpnaaGreatDoor
open Go.RowKit Go.Lib
theorem Zh (l:List UInt8) (j:Nat):occAt l [47] j=true↔l[j]? =some 47:=by
 unfold occAt;rw[←List.head?_drop]
 cases l.drop j with
 | nil=>simp
 | cons a r=>simp[List.isPrefixOf];exact⟨fun h=>h.symm,fun h=>h.symm⟩
theorem ZD {l:List UInt8} (h:jk l<l.length):l[jk l]? =some 47:=by
 have h3:List.findIdx (fun x=>x==47) l<l.length:=h;have:=List.findIdx_getElem (p:=(· ==47)) (w:=h3);rw[List.getElem?_eq_getElem h]
 have e:l[jk l]=47:=by simpa [jk] using this
 exact congrArg some e
theorem CI {l:List UInt8} {j:Nat} (h:j<jk l):l[j]? ≠some 47:=by
 intro e;obtain⟨hl,hg⟩:=List.getElem?_eq_some_iff.1 e;have:=List.not_of_lt_findIdx h;rw[hg] at this;simp at this
theorem Sb (l:List UInt8):cut l [47]=if jk l<l.length then (l.take (jk l),l.drop (jk l+1),true) else (l,[],false):=by
 have hle:=Kr l;unfold cut
 rcases index_spec l [47] with ⟨e,hno⟩ | ⟨i,e,hi,ho,hn⟩
 ·have h:¬jk l<l.length:=by
   intro h;have:=(Zh l (jk l)).2 (ZD h);rw[hno _ hle] at this;cases this
  rw[if_neg h,e,if_neg (by decide)]
 ·have h47:=(Zh l i).1 ho
  have hil:i<l.length:=(List.getElem?_eq_some_iff.1 h47).1
  have hs:jk l=i:=by
   rcases Nat.lt_trichotomy (jk l) i with h | h | h
   ·exfalso
    have h1:=(Zh l (jk l)).2 (ZD (by omega));have h2:=hn (jk l) h;rw[h1] at h2;cases h2
   ·exact h
   ·exact absurd h47 (CI h)
  rw[e,hs,if_pos (by omega),if_pos hil];rfl
def ya (c:Int) (w:World) (e:Ending) (w':World):Prop:=e = .returned (.int .i64 c)∧Below w.heap.size w w'
structure x5 (s t:ByteArray) (neg:Bool) (k:Nat) (dA:Bool):Prop where
 hsz:(s.size:Int)≤4000000000000000000
 htz:(t.size:Int)≤4000000000000000000
 hk:(k:Int)≤(t.size:Int)
 hn:neg=true → ∃h:0<s.size,(((s[0]'h).toNat:Int)==45)=true∧s.extract 1 s.size=t
 hp:neg=false→s=t ∧ ∀h:0<s.size,(((s[0]'h).toNat:Int)==45)=false
 SL:∀W,Calls Tryz.prog 103 #[.string t] W (xC k W)
 DA:∀W,Calls Tryz.prog 104 #[.string (t.extract 0 k)] W (x8 dA W)
 ne:dA=true→0<s.size
theorem Rn (s t:ByteArray) (neg:Bool) (k:Nat) (w:World) (H:x5 s t neg k false):
  Calls Tryz.prog 17 #[.string s] w (ya 1 w):=by
 obtain⟨hsz,htz,hk,hn,hp,SL0,DA0,ne⟩:=H;have SL:=hid SL0;have DA:=hid DA0;clear SL0 DA0
 cases neg with
 | true=>
  obtain⟨h0,hc,hte⟩:=hn rfl
  have h0I:(0:Int)<(s.size:Int):=by omega
  have h1I:(1:Int)≤(s.size:Int):=by omega
  have HTE:=hid hte;clear hn hp ne hte;go_enter Tryz.func17,Tryz.ntmps17
  go_wp2_with fail
  rw[HTE.out];refine(SL.out _).mono ?_;rintro e w1 ⟨rfl,rfl⟩
  go_wp2_with fail
  refine(DA.out _).mono ?_;rintro e w1 ⟨rfl,rfl⟩
  go_wp2
  go_ret;exact⟨rfl,Below.refl _ _⟩
 | false=>
  obtain⟨rfl,hc0⟩:=hp rfl;clear hn hp ne;by_cases h0:0<s.size
  ·have hc:=hc0 h0
   have h0I:(0:Int)<(s.size:Int):=by omega
   clear hc0;go_enter Tryz.func17,Tryz.ntmps17
   go_wp2_with fail
   refine(SL.out _).mono ?_;rintro e w1 ⟨rfl,rfl⟩
   go_wp2_with fail
   refine(DA.out _).mono ?_;rintro e w1 ⟨rfl,rfl⟩
   go_wp2
   go_ret;exact⟨rfl,Below.refl _ _⟩
  ·have h0I:¬(0:Int)<(s.size:Int):=by omega
   clear hc0;go_enter Tryz.func17,Tryz.ntmps17
   go_wp2_with fail
   refine(SL.out _).mono ?_;rintro e w1 ⟨rfl,rfl⟩
   go_wp2_with fail
   refine(DA.out _).mono ?_;rintro e w1 ⟨rfl,rfl⟩
   go_wp2
   go_ret;exact⟨rfl,Below.refl _ _⟩
theorem Rx (s t:ByteArray) (neg:Bool) (k:Nat) (w:World) (H:x5 s t neg k true) (hneg:neg=true) (hz:((t.extract 0 k).toList==[48])=true):
  Calls Tryz.prog 17 #[.string s] w (ya 1 w):=by
 obtain⟨hsz,htz,hk,hn,hp,SL0,DA0,ne⟩:=H;have SL:=hid SL0;have DA:=hid DA0;clear SL0 DA0
 cases neg with
 | true=>
  obtain⟨h0,hc,hte⟩:=hn rfl
  have h0I:(0:Int)<(s.size:Int):=by omega
  have h1I:(1:Int)≤(s.size:Int):=by omega
  have HTE:=hid hte;clear hn hp ne hte;go_enter Tryz.func17,Tryz.ntmps17
  go_wp2_with fail
  rw[HTE.out];refine(SL.out _).mono ?_;rintro e w1 ⟨rfl,rfl⟩
  go_wp2_with fail
  refine(DA.out _).mono ?_;rintro e w1 ⟨rfl,rfl⟩
  go_wp2
  go_ret;exact⟨rfl,Below.refl _ _⟩
 | false=>
  cases hneg
theorem Ry (s t:ByteArray) (neg:Bool) (k:Nat) (w:World) (H:x5 s t neg k true) (hz:neg=true→((t.extract 0 k).toList==[48])=false) (hkk:k=t.size) (hl:(600:Int)<k):
  Calls Tryz.prog 17 #[.string s] w (ya 4 w):=by
 obtain⟨hsz,htz,hk,hn,hp,SL0,DA0,ne⟩:=H;have SL:=hid SL0;have DA:=hid DA0;clear SL0 DA0
 have hlt:¬(k:Int)<(t.size:Int):=by omega
 have hd1:(t.size:Int)-(k:Int)-1 = -1:=by omega
 have hd2:¬(600:Int)<(t.size:Int)-(k:Int)-1:=by omega
 clear hkk hd1
 cases neg with
 | true=>
  obtain⟨h0,hc,hte⟩:=hn rfl
  have h0I:(0:Int)<(s.size:Int):=by omega
  have h1I:(1:Int)≤(s.size:Int):=by omega
  have HTE:=hid hte;clear hn hp ne hte;have hz1:=hz rfl;clear hz;go_enter Tryz.func17,Tryz.ntmps17
  go_wp2_with fail
  rw[HTE.out];refine(SL.out _).mono ?_;rintro e w1 ⟨rfl,rfl⟩
  go_wp2_with fail
  refine(DA.out _).mono ?_;rintro e w1 ⟨rfl,rfl⟩
  go_wp2
  go_ret;exact⟨rfl,Below.refl _ _⟩
 | false=>
  obtain⟨rfl,hc0⟩:=hp rfl;have h0:=ne rfl;have hc:=hc0 h0
  have h0I:(0:Int)<(s.size:Int):=by omega
  clear hn hp ne hc0 hz;go_enter Tryz.func17,Tryz.ntmps17
  go_wp2_with fail
  refine(SL.out _).mono ?_;rintro e w1 ⟨rfl,rfl⟩
  go_wp2_with fail
  refine(DA.out _).mono ?_;rintro e w1 ⟨rfl,rfl⟩
  go_wp2
  go_ret;exact⟨rfl,Below.refl _ _⟩
theorem Rz (s t:ByteArray) (neg:Bool) (k:Nat) (w:World) (H:x5 s t neg k true) (hz:neg=true→((t.extract 0 k).toList==[48])=false) (hkk:k=t.size) (hl:¬(600:Int)<k):
  Calls Tryz.prog 17 #[.string s] w (ya 0 w):=by
 obtain⟨hsz,htz,hk,hn,hp,SL0,DA0,ne⟩:=H;have SL:=hid SL0;have DA:=hid DA0;clear SL0 DA0
 have hlt:¬(k:Int)<(t.size:Int):=by omega
 have hd1:(t.size:Int)-(k:Int)-1 = -1:=by omega
 have hd2:¬(600:Int)<(t.size:Int)-(k:Int)-1:=by omega
 clear hkk hd1
 cases neg with
 | true=>
  obtain⟨h0,hc,hte⟩:=hn rfl
  have h0I:(0:Int)<(s.size:Int):=by omega
  have h1I:(1:Int)≤(s.size:Int):=by omega
  have HTE:=hid hte;clear hn hp ne hte;have hz1:=hz rfl;clear hz;go_enter Tryz.func17,Tryz.ntmps17
  go_wp2_with fail
  rw[HTE.out];refine(SL.out _).mono ?_;rintro e w1 ⟨rfl,rfl⟩
  go_wp2_with fail
  refine(DA.out _).mono ?_;rintro e w1 ⟨rfl,rfl⟩
  go_wp2
  go_ret;exact⟨rfl,Below.refl _ _⟩
 | false=>
  obtain⟨rfl,hc0⟩:=hp rfl;have h0:=ne rfl;have hc:=hc0 h0
  have h0I:(0:Int)<(s.size:Int):=by omega
  clear hn hp ne hc0 hz;go_enter Tryz.func17,Tryz.ntmps17
  go_wp2_with fail
  refine(SL.out _).mono ?_;rintro e w1 ⟨rfl,rfl⟩
  go_wp2_with fail
  refine(DA.out _).mono ?_;rintro e w1 ⟨rfl,rfl⟩
  go_wp2
  go_ret;exact⟨rfl,Below.refl _ _⟩
theorem Ro (s t:ByteArray) (neg:Bool) (k:Nat) (w:World) (H:x5 s t neg k true) (hz:neg=true→((t.extract 0 k).toList==[48])=false) (hlt:(k:Int)<(t.size:Int)) (dB:Bool) (DB0:∀W,Calls Tryz.prog 104 #[.string (t.extract (k+1) t.size)] W (x8 dB W)) (hdB:dB=false):
  Calls Tryz.prog 17 #[.string s] w (ya 1 w):=by
 obtain⟨hsz,htz,hk,hn,hp,SL0,DA0,ne⟩:=H;have SL:=hid SL0;have DA:=hid DA0;clear SL0 DA0;have DB:=hid DB0;clear DB0
 have hk1:(k:Int)+1≤(t.size:Int):=by omega
 subst hdB
 cases neg with
 | true=>
  obtain⟨h0,hc,hte⟩:=hn rfl
  have h0I:(0:Int)<(s.size:Int):=by omega
  have h1I:(1:Int)≤(s.size:Int):=by omega
  have HTE:=hid hte;clear hn hp ne hte;have hz1:=hz rfl;clear hz;go_enter Tryz.func17,Tryz.ntmps17
  go_wp2_with fail
  rw[HTE.out];refine(SL.out _).mono ?_;rintro e w1 ⟨rfl,rfl⟩
  go_wp2_with fail
  refine(DA.out _).mono ?_;rintro e w1 ⟨rfl,rfl⟩
  go_wp2_with fail
  refine(DB.out _).mono ?_;rintro e w1 ⟨rfl,rfl⟩
  go_wp2
  go_ret;exact⟨rfl,Below.refl _ _⟩
 | false=>
  obtain⟨rfl,hc0⟩:=hp rfl;have h0:=ne rfl;have hc:=hc0 h0
  have h0I:(0:Int)<(s.size:Int):=by omega
  clear hn hp ne hc0 hz;go_enter Tryz.func17,Tryz.ntmps17
  go_wp2_with fail
  refine(SL.out _).mono ?_;rintro e w1 ⟨rfl,rfl⟩
  go_wp2_with fail
  refine(DA.out _).mono ?_;rintro e w1 ⟨rfl,rfl⟩
  go_wp2_with fail
  refine(DB.out _).mono ?_;rintro e w1 ⟨rfl,rfl⟩
  go_wp2
  go_ret;exact⟨rfl,Below.refl _ _⟩
theorem Rp (s t:ByteArray) (neg:Bool) (k:Nat) (w:World) (H:x5 s t neg k true) (hz:neg=true→((t.extract 0 k).toList==[48])=false) (hlt:(k:Int)<(t.size:Int)) (dB:Bool) (DB0:∀W,Calls Tryz.prog 104 #[.string (t.extract (k+1) t.size)] W (x8 dB W)) (hdB:dB=true) (hb0:((t.extract (k+1) t.size).toList==[48])=true):
  Calls Tryz.prog 17 #[.string s] w (ya 1 w):=by
 obtain⟨hsz,htz,hk,hn,hp,SL0,DA0,ne⟩:=H;have SL:=hid SL0;have DA:=hid DA0;clear SL0 DA0;have DB:=hid DB0;clear DB0
 have hk1:(k:Int)+1≤(t.size:Int):=by omega
 subst hdB
 cases neg with
 | true=>
  obtain⟨h0,hc,hte⟩:=hn rfl
  have h0I:(0:Int)<(s.size:Int):=by omega
  have h1I:(1:Int)≤(s.size:Int):=by omega
  have HTE:=hid hte;clear hn hp ne hte;have hz1:=hz rfl;clear hz;go_enter Tryz.func17,Tryz.ntmps17
  go_wp2_with fail
  rw[HTE.out];refine(SL.out _).mono ?_;rintro e w1 ⟨rfl,rfl⟩
  go_wp2_with fail
  refine(DA.out _).mono ?_;rintro e w1 ⟨rfl,rfl⟩
  go_wp2_with fail
  refine(DB.out _).mono ?_;rintro e w1 ⟨rfl,rfl⟩
  go_wp2
  go_ret;exact⟨rfl,Below.refl _ _⟩
 | false=>
  obtain⟨rfl,hc0⟩:=hp rfl;have h0:=ne rfl;have hc:=hc0 h0
  have h0I:(0:Int)<(s.size:Int):=by omega
  clear hn hp ne hc0 hz;go_enter Tryz.func17,Tryz.ntmps17
  go_wp2_with fail
  refine(SL.out _).mono ?_;rintro e w1 ⟨rfl,rfl⟩
  go_wp2_with fail
  refine(DA.out _).mono ?_;rintro e w1 ⟨rfl,rfl⟩
  go_wp2_with fail
  refine(DB.out _).mono ?_;rintro e w1 ⟨rfl,rfl⟩
  go_wp2
  go_ret;exact⟨rfl,Below.refl _ _⟩
theorem Rq (s t:ByteArray) (neg:Bool) (k:Nat) (w:World) (H:x5 s t neg k true) (hz:neg=true→((t.extract 0 k).toList==[48])=false) (hlt:(k:Int)<(t.size:Int)) (dB:Bool) (DB0:∀W,Calls Tryz.prog 104 #[.string (t.extract (k+1) t.size)] W (x8 dB W)) (hdB:dB=true) (hb0:((t.extract (k+1) t.size).toList==[48])=false) (hb1:((t.extract (k+1) t.size).toList==[49])=true):
  Calls Tryz.prog 17 #[.string s] w (ya 1 w):=by
 obtain⟨hsz,htz,hk,hn,hp,SL0,DA0,ne⟩:=H;have SL:=hid SL0;have DA:=hid DA0;clear SL0 DA0;have DB:=hid DB0;clear DB0
 have hk1:(k:Int)+1≤(t.size:Int):=by omega
 subst hdB
 cases neg with
 | true=>
  obtain⟨h0,hc,hte⟩:=hn rfl
  have h0I:(0:Int)<(s.size:Int):=by omega
  have h1I:(1:Int)≤(s.size:Int):=by omega
  have HTE:=hid hte;clear hn hp ne hte;have hz1:=hz rfl;clear hz;go_enter Tryz.func17,Tryz.ntmps17
  go_wp2_with fail
  rw[HTE.out];refine(SL.out _).mono ?_;rintro e w1 ⟨rfl,rfl⟩
  go_wp2_with fail
  refine(DA.out _).mono ?_;rintro e w1 ⟨rfl,rfl⟩
  go_wp2_with fail
  refine(DB.out _).mono ?_;rintro e w1 ⟨rfl,rfl⟩
  go_wp2
  go_ret;exact⟨rfl,Below.refl _ _⟩
 | false=>
  obtain⟨rfl,hc0⟩:=hp rfl;have h0:=ne rfl;have hc:=hc0 h0
  have h0I:(0:Int)<(s.size:Int):=by omega
  clear hn hp ne hc0 hz;go_enter Tryz.func17,Tryz.ntmps17
  go_wp2_with fail
  refine(SL.out _).mono ?_;rintro e w1 ⟨rfl,rfl⟩
  go_wp2_with fail
  refine(DA.out _).mono ?_;rintro e w1 ⟨rfl,rfl⟩
  go_wp2_with fail
  refine(DB.out _).mono ?_;rintro e w1 ⟨rfl,rfl⟩
  go_wp2
  go_ret;exact⟨rfl,Below.refl _ _⟩
theorem Ru (s t:ByteArray) (neg:Bool) (k:Nat) (w:World) (H:x5 s t neg k true) (hz:neg=true→((t.extract 0 k).toList==[48])=false) (hlt:(k:Int)<(t.size:Int)) (dB:Bool) (DB0:∀W,Calls Tryz.prog 104 #[.string (t.extract (k+1) t.size)] W (x8 dB W)) (hdB:dB=true) (hb0:((t.extract (k+1) t.size).toList==[48])=false) (hb1:((t.extract (k+1) t.size).toList==[49])=false) (hl:(600:Int)<k):
  Calls Tryz.prog 17 #[.string s] w (ya 4 w):=by
 obtain⟨hsz,htz,hk,hn,hp,SL0,DA0,ne⟩:=H;have SL:=hid SL0;have DA:=hid DA0;clear SL0 DA0;have DB:=hid DB0;clear DB0
 have hk1:(k:Int)+1≤(t.size:Int):=by omega
 subst hdB
 cases neg with
 | true=>
  obtain⟨h0,hc,hte⟩:=hn rfl
  have h0I:(0:Int)<(s.size:Int):=by omega
  have h1I:(1:Int)≤(s.size:Int):=by omega
  have HTE:=hid hte;clear hn hp ne hte;have hz1:=hz rfl;clear hz;go_enter Tryz.func17,Tryz.ntmps17
  go_wp2_with fail
  rw[HTE.out];refine(SL.out _).mono ?_;rintro e w1 ⟨rfl,rfl⟩
  go_wp2_with fail
  refine(DA.out _).mono ?_;rintro e w1 ⟨rfl,rfl⟩
  go_wp2_with fail
  refine(DB.out _).mono ?_;rintro e w1 ⟨rfl,rfl⟩
  go_wp2
  go_ret;exact⟨rfl,Below.refl _ _⟩
 | false=>
  obtain⟨rfl,hc0⟩:=hp rfl;have h0:=ne rfl;have hc:=hc0 h0
  have h0I:(0:Int)<(s.size:Int):=by omega
  clear hn hp ne hc0 hz;go_enter Tryz.func17,Tryz.ntmps17
  go_wp2_with fail
  refine(SL.out _).mono ?_;rintro e w1 ⟨rfl,rfl⟩
  go_wp2_with fail
  refine(DA.out _).mono ?_;rintro e w1 ⟨rfl,rfl⟩
  go_wp2_with fail
  refine(DB.out _).mono ?_;rintro e w1 ⟨rfl,rfl⟩
  go_wp2
  go_ret;exact⟨rfl,Below.refl _ _⟩
theorem Rv (s t:ByteArray) (neg:Bool) (k:Nat) (w:World) (H:x5 s t neg k true) (hz:neg=true→((t.extract 0 k).toList==[48])=false) (hlt:(k:Int)<(t.size:Int)) (dB:Bool) (DB0:∀W,Calls Tryz.prog 104 #[.string (t.extract (k+1) t.size)] W (x8 dB W)) (hdB:dB=true) (hb0:((t.extract (k+1) t.size).toList==[48])=false) (hb1:((t.extract (k+1) t.size).toList==[49])=false) (hl:¬(600:Int)<k) (hl2:(600:Int)<(t.size:Int)-k-1):
  Calls Tryz.prog 17 #[.string s] w (ya 4 w):=by
 obtain⟨hsz,htz,hk,hn,hp,SL0,DA0,ne⟩:=H;have SL:=hid SL0;have DA:=hid DA0;clear SL0 DA0;have DB:=hid DB0;clear DB0
 have hk1:(k:Int)+1≤(t.size:Int):=by omega
 subst hdB
 cases neg with
 | true=>
  obtain⟨h0,hc,hte⟩:=hn rfl
  have h0I:(0:Int)<(s.size:Int):=by omega
  have h1I:(1:Int)≤(s.size:Int):=by omega
  have HTE:=hid hte;clear hn hp ne hte;have hz1:=hz rfl;clear hz;go_enter Tryz.func17,Tryz.ntmps17
  go_wp2_with fail
  rw[HTE.out];refine(SL.out _).mono ?_;rintro e w1 ⟨rfl,rfl⟩
  go_wp2_with fail
  refine(DA.out _).mono ?_;rintro e w1 ⟨rfl,rfl⟩
  go_wp2_with fail
  refine(DB.out _).mono ?_;rintro e w1 ⟨rfl,rfl⟩
  go_wp2
  go_ret;exact⟨rfl,Below.refl _ _⟩
 | false=>
  obtain⟨rfl,hc0⟩:=hp rfl;have h0:=ne rfl;have hc:=hc0 h0
  have h0I:(0:Int)<(s.size:Int):=by omega
  clear hn hp ne hc0 hz;go_enter Tryz.func17,Tryz.ntmps17
  go_wp2_with fail
  refine(SL.out _).mono ?_;rintro e w1 ⟨rfl,rfl⟩
  go_wp2_with fail
  refine(DA.out _).mono ?_;rintro e w1 ⟨rfl,rfl⟩
  go_wp2_with fail
  refine(DB.out _).mono ?_;rintro e w1 ⟨rfl,rfl⟩
  go_wp2
  go_ret;exact⟨rfl,Below.refl _ _⟩
theorem QQ {w:World} {x y:Nat} {b1 b2:Bool} {A1 A2:Option Addr} {m1 m2 c1 c2:Nat} (r1:Ri w (.agg #[.bool b1,.slice A1 m1 c1]) (x:Int)) (r2:Ri w (.agg #[.bool b2,.slice A2 m2 c2]) (y:Int)) (bx:jN x) (by_:jN y):
  Calls Tryz.prog 106 #[.slice A1 m1 c1,.slice A2 m2 c2] w (QU (Nat.gcd x y) w):=by
 obtain⟨dx,hx,hdx⟩:=r1.dg;obtain⟨dy,hy,hdy⟩:=r2.dg
 have e1:dx = .slice A1 m1 c1:=by
  simp at hx;exact hx.2.symm
 have e2:dy = .slice A2 m2 c2:=by
  simp at hy;exact hy.2.symm
 rw[e1,Int.natAbs_natCast] at hdx;rw[e2,Int.natAbs_natCast] at hdy;exact Ys _ _ x y w hdx hdy bx by_
theorem Rs (s t:ByteArray) (neg:Bool) (k:Nat) (w:World) (H:x5 s t neg k true) (hz:neg=true→((t.extract 0 k).toList==[48])=false) (hlt:(k:Int)<(t.size:Int)) (dB:Bool) (DB0:∀W,Calls Tryz.prog 104 #[.string (t.extract (k+1) t.size)] W (x8 dB W)) (hdB:dB=true) (hb0:((t.extract (k+1) t.size).toList==[48])=false) (hb1:((t.extract (k+1) t.size).toList==[49])=false) (hl:¬(600:Int)<k) (hl2:¬(600:Int)<(t.size:Int)-k-1) (x y:Nat) (PT:Hid (∀W,Calls Tryz.prog 105 #[.string t] W (xH (x:Int) (y:Int) W))) (bx:Hid (jN x)) (by_:Hid (jN y)) (_hy:Hid (0<y)) (HG:Hid (Nat.gcd x y=1)):
  Calls Tryz.prog 17 #[.string s] w (ya 0 w):=by
 obtain⟨hsz,htz,hk,hn,hp,SL0,DA0,ne⟩:=H;have SL:=hid SL0;have DA:=hid DA0;clear SL0 DA0;have DB:=hid DB0;clear DB0
 have hk1:(k:Int)+1≤(t.size:Int):=by omega
 subst hdB
 cases neg with
 | true=>
  obtain⟨h0,hc,hte⟩:=hn rfl
  have h0I:(0:Int)<(s.size:Int):=by omega
  have h1I:(1:Int)≤(s.size:Int):=by omega
  have HTE:=hid hte;clear hn hp ne hte;have hz1:=hz rfl;clear hz;go_enter Tryz.func17,Tryz.ntmps17
  go_wp2_with fail
  rw[HTE.out];refine(SL.out _).mono ?_;rintro e w1 ⟨rfl,rfl⟩
  go_wp2_with fail
  refine(DA.out _).mono ?_;rintro e w1 ⟨rfl,rfl⟩
  go_wp2_with fail
  refine(DB.out _).mono ?_;rintro e w1 ⟨rfl,rfl⟩
  go_wp2_with fail
  refine(PT.out _).mono ?_;rintro e w1 ⟨vp,vq,rfl,rp,rq,hB1⟩;obtain⟨Ap,np,cp,rfl,_,_⟩:=rp.open_;obtain⟨Aq,nq_,cq,rfl,_,_⟩:=rq.open_;generalize decide ((x:Int)<0)=bp at *;generalize decide ((y:Int)<0)=bq at *;obtain⟨W1,hW1,hBW1,hz1,o1,o2,rp1,rq1⟩:=zk rp rq
  go_upto_region 13 with fail
  rw[←hW1];have HB1:=hid (hB1.trans (hBW1.mono hB1.size));have CM:=hid (QQ rp1 rq1 bx.out by_.out);obtain⟨a0,a1⟩:=o1.cell2;obtain⟨b0,b1⟩:=o2.cell2;clear hW1 hBW1 hz1 o1 o2 rp1 rq1 rp rq hB1 PT
  go_wp2_with fail
  refine CM.out.mono ?_;rintro e w2 ⟨gv,rfl,hg,hB2⟩;have HBF:=hid (HB1.out.trans (hB2.mono HB1.out.size));clear hB2 CM;rw[HG.out] at hg;obtain⟨gb,go_,gc,rfl,hgb,hgc⟩:=hg.one (by decide) (by decide);clear hg
  go_wp2
  go_ret;exact⟨rfl,HBF.out⟩
 | false=>
  obtain⟨rfl,hc0⟩:=hp rfl;have h0:=ne rfl;have hc:=hc0 h0
  have h0I:(0:Int)<(s.size:Int):=by omega
  clear hn hp ne hc0 hz;go_enter Tryz.func17,Tryz.ntmps17
  go_wp2_with fail
  refine(SL.out _).mono ?_;rintro e w1 ⟨rfl,rfl⟩
  go_wp2_with fail
  refine(DA.out _).mono ?_;rintro e w1 ⟨rfl,rfl⟩
  go_wp2_with fail
  refine(DB.out _).mono ?_;rintro e w1 ⟨rfl,rfl⟩
  go_wp2_with fail
  refine(PT.out _).mono ?_;rintro e w1 ⟨vp,vq,rfl,rp,rq,hB1⟩;obtain⟨Ap,np,cp,rfl,_,_⟩:=rp.open_;obtain⟨Aq,nq_,cq,rfl,_,_⟩:=rq.open_;generalize decide ((x:Int)<0)=bp at *;generalize decide ((y:Int)<0)=bq at *;obtain⟨W1,hW1,hBW1,hz1,o1,o2,rp1,rq1⟩:=zk rp rq
  go_upto_region 13 with fail
  rw[←hW1];have HB1:=hid (hB1.trans (hBW1.mono hB1.size));have CM:=hid (QQ rp1 rq1 bx.out by_.out);obtain⟨a0,a1⟩:=o1.cell2;obtain⟨b0,b1⟩:=o2.cell2;clear hW1 hBW1 hz1 o1 o2 rp1 rq1 rp rq hB1 PT
  go_wp2_with fail
  refine CM.out.mono ?_;rintro e w2 ⟨gv,rfl,hg,hB2⟩;have HBF:=hid (HB1.out.trans (hB2.mono HB1.out.size));clear hB2 CM;rw[HG.out] at hg;obtain⟨gb,go_,gc,rfl,hgb,hgc⟩:=hg.one (by decide) (by decide);clear hg
  go_wp2
  go_ret;exact⟨rfl,HBF.out⟩
theorem Rr (s t:ByteArray) (neg:Bool) (k:Nat) (w:World) (H:x5 s t neg k true) (hz:neg=true→((t.extract 0 k).toList==[48])=false) (hlt:(k:Int)<(t.size:Int)) (dB:Bool) (DB0:∀W,Calls Tryz.prog 104 #[.string (t.extract (k+1) t.size)] W (x8 dB W)) (hdB:dB=true) (hb0:((t.extract (k+1) t.size).toList==[48])=false) (hb1:((t.extract (k+1) t.size).toList==[49])=false) (hl:¬(600:Int)<k) (hl2:¬(600:Int)<(t.size:Int)-k-1) (x y:Nat) (PT:Hid (∀W,Calls Tryz.prog 105 #[.string t] W (xH (x:Int) (y:Int) W))) (bx:Hid (jN x)) (by_:Hid (jN y)) (hy:Hid (0<y)) (HG:Hid (Nat.gcd x y≠1)):
  Calls Tryz.prog 17 #[.string s] w (ya 1 w):=by
 obtain⟨hsz,htz,hk,hn,hp,SL0,DA0,ne⟩:=H;have SL:=hid SL0;have DA:=hid DA0;clear SL0 DA0;have DB:=hid DB0;clear DB0
 have hk1:(k:Int)+1≤(t.size:Int):=by omega
 subst hdB
 cases neg with
 | true=>
  obtain⟨h0,hc,hte⟩:=hn rfl
  have h0I:(0:Int)<(s.size:Int):=by omega
  have h1I:(1:Int)≤(s.size:Int):=by omega
  have HTE:=hid hte;clear hn hp ne hte;have hz1:=hz rfl;clear hz;go_enter Tryz.func17,Tryz.ntmps17
  go_wp2_with fail
  rw[HTE.out];refine(SL.out _).mono ?_;rintro e w1 ⟨rfl,rfl⟩
  go_wp2_with fail
  refine(DA.out _).mono ?_;rintro e w1 ⟨rfl,rfl⟩
  go_wp2_with fail
  refine(DB.out _).mono ?_;rintro e w1 ⟨rfl,rfl⟩
  go_wp2_with fail
  refine(PT.out _).mono ?_;rintro e w1 ⟨vp,vq,rfl,rp,rq,hB1⟩;obtain⟨Ap,np,cp,rfl,_,_⟩:=rp.open_;obtain⟨Aq,nq_,cq,rfl,_,_⟩:=rq.open_;generalize decide ((x:Int)<0)=bp at *;generalize decide ((y:Int)<0)=bq at *;obtain⟨W1,hW1,hBW1,hz1,o1,o2,rp1,rq1⟩:=zk rp rq
  go_upto_region 13 with fail
  rw[←hW1];have HB1:=hid (hB1.trans (hBW1.mono hB1.size));have CM:=hid (QQ rp1 rq1 bx.out by_.out);obtain⟨a0,a1⟩:=o1.cell2;obtain⟨b0,b1⟩:=o2.cell2;clear hW1 hBW1 hz1 o1 o2 rp1 rq1 rp rq hB1 PT
  go_wp2_with fail
  refine CM.out.mono ?_;rintro e w2 ⟨gv,rfl,hg,hB2⟩;have HBF:=hid (HB1.out.trans (hB2.mono HB1.out.size));clear hB2 CM
  rcases XJ hg (Nat.gcd_pos_of_pos_right _ hy.out) HG.out with ⟨A9,n9,c9,rfl,hqn,hql⟩ | ⟨qb,qo,qc2,rfl,hqb,hqc,hqv⟩
  ·have hqn2:((n9:Int) != 1)=true:=by simpa using hqn
   clear hg
   go_wp2
   go_ret;exact⟨rfl,HBF.out⟩
  ·have hqv2:(((Nat.gcd x y:Nat):Int) != 1)=true:=by simpa using hqv
   clear hg;generalize Nat.gcd x y=g at *
   go_wp2
   go_ret;exact⟨rfl,HBF.out⟩
 | false=>
  obtain⟨rfl,hc0⟩:=hp rfl;have h0:=ne rfl;have hc:=hc0 h0
  have h0I:(0:Int)<(s.size:Int):=by omega
  clear hn hp ne hc0 hz;go_enter Tryz.func17,Tryz.ntmps17
  go_wp2_with fail
  refine(SL.out _).mono ?_;rintro e w1 ⟨rfl,rfl⟩
  go_wp2_with fail
  refine(DA.out _).mono ?_;rintro e w1 ⟨rfl,rfl⟩
  go_wp2_with fail
  refine(DB.out _).mono ?_;rintro e w1 ⟨rfl,rfl⟩
  go_wp2_with fail
  refine(PT.out _).mono ?_;rintro e w1 ⟨vp,vq,rfl,rp,rq,hB1⟩;obtain⟨Ap,np,cp,rfl,_,_⟩:=rp.open_;obtain⟨Aq,nq_,cq,rfl,_,_⟩:=rq.open_;generalize decide ((x:Int)<0)=bp at *;generalize decide ((y:Int)<0)=bq at *;obtain⟨W1,hW1,hBW1,hz1,o1,o2,rp1,rq1⟩:=zk rp rq
  go_upto_region 13 with fail
  rw[←hW1];have HB1:=hid (hB1.trans (hBW1.mono hB1.size));have CM:=hid (QQ rp1 rq1 bx.out by_.out);obtain⟨a0,a1⟩:=o1.cell2;obtain⟨b0,b1⟩:=o2.cell2;clear hW1 hBW1 hz1 o1 o2 rp1 rq1 rp rq hB1 PT
  go_wp2_with fail
  refine CM.out.mono ?_;rintro e w2 ⟨gv,rfl,hg,hB2⟩;have HBF:=hid (HB1.out.trans (hB2.mono HB1.out.size));clear hB2 CM
  rcases XJ hg (Nat.gcd_pos_of_pos_right _ hy.out) HG.out with ⟨A9,n9,c9,rfl,hqn,hql⟩ | ⟨qb,qo,qc2,rfl,hqb,hqc,hqv⟩
  ·have hqn2:((n9:Int) != 1)=true:=by simpa using hqn
   clear hg
   go_wp2
   go_ret;exact⟨rfl,HBF.out⟩
  ·have hqv2:(((Nat.gcd x y:Nat):Int) != 1)=true:=by simpa using hqv
   clear hg;generalize Nat.gcd x y=g at *
   go_wp2
   go_ret;exact⟨rfl,HBF.out⟩
theorem GZ (l:List UInt8):l=(if hasPrefix l [45]=true then [45] else [])++trimPrefix l [45]:=by
 unfold trimPrefix hasPrefix
 cases l with
 | nil=>rfl
 | cons a r=>
  by_cases h:([45].isPrefixOf (a::r))=true
  ·rw[if_pos h,if_pos h]
   have:a=45:=by simp[List.isPrefixOf] at h;exact h.symm
   subst this;rfl
  ·rw[if_neg h,if_neg h];rfl
theorem Am (l:List UInt8) (h:hasPrefix l [45]=false):l[0]? ≠some 45:=by
 unfold hasPrefix at h
 cases l with
 | nil=>simp
 | cons a r=>
  intro e
  have:a=45:=by simpa using e
  subst this;simp[List.isPrefixOf] at h
@[irreducible] def xk:Nat:=600
theorem Jj:xk=600:=by unfold xk;rfl
theorem Uv {x:Nat} (h:x<10^xk):jN x:=by
 have h0:1000≤xo:=by unfold xo;decide
 have h6:=Jj;have h1:10^xk≤10^(9*xo):=Nat.pow_le_pow_right (by decide) (by omega);rw[Nat.pow_mul] at h1;exact Nat.lt_of_lt_of_le h h1
theorem G6 {a:List UInt8} (h:jW a) (hl:a.length≤600):jf a<10^xk:=Nat.lt_of_lt_of_le (qG h) (Nat.pow_le_pow_right (by decide) (by rw[Jj];exact hl))
theorem UJ (d:List UInt8):((cut d [47]).2.2=true∧d=(cut d [47]).1++47::(cut d [47]).2.1∧(cut d [47]).1=d.take (jk d)∧(cut d [47]).2.1=d.drop (jk d+1)∧jk d<d.length)∨((cut d [47]).2.2=false∧d=(cut d [47]).1∧jk d=d.length):=by
 rw[Sb];by_cases h:jk d<d.length
 ·rw[if_pos h]
  refine .inl ⟨rfl,?_,rfl,rfl,h⟩;have h1:=ZD h;obtain⟨hl,hg⟩:=List.getElem?_eq_some_iff.1 h1
  conv=>lhs;rw[←List.take_append_drop (jk d) d,List.drop_eq_getElem_cons hl,hg]
 ·rw[if_neg h]
  exact .inr ⟨rfl,rfl,by have:=Kr d;omega⟩
theorem Zg {a:List UInt8} (h:jD a):decDigits (jf a)=a:=(Dn a.length a rfl h).symm
theorem XS {a:List UInt8} {n:Nat} {t:List UInt8} (h:jD a) (ht:decDigits n=t) (hne:a≠t):jf a≠n:=fun e=>hne (by rw[←Zg h,e,ht])
theorem WU (l:List UInt8) (h:(jn l).1=0):jg (jn l).2=l∧(jn l).2.num.natAbs<10^xk∧(jn l).2.den<10^xk:=by
 have hl:=GZ l;have hc:=UJ (trimPrefix l [45]);unfold jn at h ⊢;generalize hasPrefix l [45]=neg at *;generalize trimPrefix l [45]=d at *;generalize (cut d [47]).1=a at *;generalize (cut d [47]).2.1=b at *;generalize (cut d [47]).2.2=f at *;unfold Kk at h ⊢;by_cases h1:¬jD a∨(neg=true∧a=[48])
 ·rw[if_pos h1] at h;cases h
 rw[if_neg h1] at h ⊢;have hA:jD a:=Decidable.not_not.1 (fun h=>h1 (.inl h))
 have hpos:neg=true→0<jf a:=fun hn=>by
  have:=XS hA (decDigits_one (by decide:(0:Nat)<10)) (fun e=>h1 (.inr ⟨hn,e⟩));omega
 have key:∀D:Nat,D≠0→Nat.gcd (jf a) D=1→jg (jV neg (jf a) D)=(if neg=true then [45] else [])++a++(if D=1 then [] else 47::decDigits D)∧(jV neg (jf a) D).num.natAbs=jf a∧(jV neg (jf a) D).den=D:=by
  intro D hD hg;rw[za]
  have hg':Nat.gcd (sg neg (jf a)).natAbs D=1:=by rw[Kq];exact hg
  obtain⟨e1,e2⟩:=Kb hD hg';rw[Gn hD hg',e1,e2,Kq];refine⟨?_,rfl,rfl⟩;unfold qI;rw[Gu,Zg hA]
  cases neg with
  | true=>rw[decide_eq_true (hpos rfl)];simp
  | false=>simp
 by_cases hf:f=true
 ·rw[if_pos hf] at h ⊢
  by_cases h2:¬jD b∨b=[48]∨b=[49]
  ·rw[if_pos h2] at h;cases h
  rw[if_neg h2] at h ⊢;by_cases h3:600<a.length∨600<b.length
  ·rw[if_pos h3] at h;cases h
  rw[if_neg h3] at h ⊢;by_cases h4:Nat.gcd (jf a) (jf b)=1
  ·rw[if_pos h4] at h ⊢
   have hB:jD b:=Decidable.not_not.1 (fun h=>h2 (.inl h));have b0:jf b≠0:=XS hB (decDigits_one (by decide:(0:Nat)<10)) (fun e=>h2 (.inr (.inl e)));have b1:jf b≠1:=XS hB (decDigits_one (by decide:(1:Nat)<10)) (fun e=>h2 (.inr (.inr e)));obtain⟨k1,k2,k3⟩:=key _ b0 h4
   show jg (jV neg (jf a) (jf b))=l∧(jV neg (jf a) (jf b)).num.natAbs<10^xk∧(jV neg (jf a) (jf b)).den<10^xk
   rw[k1,k2,k3,if_neg b1,Zg hB];have la:=qG hA.1;have lb:=qG hB.1;have pa:10^a.length≤10^xk:=Nat.pow_le_pow_right (by decide) (by rw[Jj];omega);have pb:10^b.length≤10^xk:=Nat.pow_le_pow_right (by decide) (by rw[Jj];omega);refine⟨?_,Nat.lt_of_lt_of_le la pa,Nat.lt_of_lt_of_le lb pb⟩
   rcases hc with ⟨_,hd,_⟩ | ⟨hf2,_⟩
   ·rw[hl,hd,List.append_assoc]
   ·rw[hf] at hf2;cases hf2
  ·rw[if_neg h4] at h;cases h
 ·rw[if_neg hf] at h ⊢
  by_cases h3:600<a.length
  ·rw[if_pos h3] at h;cases h
  rw[if_neg h3] at h ⊢;obtain⟨k1,k2,k3⟩:=key 1 (by decide) (Nat.gcd_one_right _)
  show jg (jV neg (jf a) 1)=l∧(jV neg (jf a) 1).num.natAbs<10^xk∧(jV neg (jf a) 1).den<10^xk
  rw[k1,k2,k3,if_pos rfl,List.append_nil];have la:=qG hA.1;have pa:10^a.length≤10^xk:=Nat.pow_le_pow_right (by decide) (by rw[Jj];omega);refine⟨?_,Nat.lt_of_lt_of_le la pa,Nat.one_lt_pow (by rw[Jj];decide) (by decide)⟩
  rcases hc with ⟨hf2,_⟩ | ⟨_,hd,_⟩
  ·exact absurd hf2 hf
  ·rw[hl,hd]
theorem JE (l:List UInt8) (w:World) (hb:l.length≤9000000):Calls Tryz.prog 17 #[.string ⟨l.toArray⟩] w (ya (jn l).1 w):=by
 have hle:=GZ l;have hc:=UJ (trimPrefix l [45]);have hdl:(trimPrefix l [45]).length≤l.length:=ZN l;have hpre:=Am l;unfold jn;generalize hasPrefix l [45]=neg at *;generalize trimPrefix l [45]=d at *;generalize hss:(⟨l.toArray⟩:ByteArray)=s
 have hs:s.data.toList=l:=by rw[←hss]
 have hsz:=kw hs;have hk:=Kr d
 obtain⟨t,ht,htl⟩:∃t:ByteArray,t.data.toList=d∧(neg=true→s.extract 1 s.size=t)∧(neg=false→s=t):=by
  cases neg with
  | true=>
   have hs':s.data.toList=45::d:=by rw[hs,hle];rfl
   exact⟨s.extract 1 s.size,by rw[xD hs',kw hs',List.take_of_length_le (Nat.le_refl _)];rfl,fun _=>rfl,(fun h=>by cases h)⟩
  | false=>exact⟨s,by rw[hs,hle];rfl,(fun h=>by cases h),fun _=>rfl⟩
 have htz:=kw ht
 have ea:(t.extract 0 (jk d)).data.toList=d.take (jk d):=by rw[xD ht];simp
 have eb:(t.extract (jk d+1) t.size).data.toList=d.drop (jk d+1):=by rw[xD ht,htz,List.take_of_length_le (Nat.le_refl _)]
 have hA:(cut d [47]).1=d.take (jk d):=by
  rcases hc with ⟨_,_,h,_⟩ | ⟨_,h,h2⟩
  ·exact h
  ·rw[h2,List.take_of_length_le (Nat.le_refl _)];exact h.symm
 have SL:∀W,Calls Tryz.prog 103 #[.string t] W (xC (jk d) W):=fun W=>by have h:=zi t W (by omega);rw[ht] at h;exact h
 have DA:∀W,Calls Tryz.prog 104 #[.string (t.extract 0 (jk d))] W (x8 (decide (jD (d.take (jk d)))) W):=fun W=>by
  have h:=US (t.extract 0 (jk d)) W (by rw[kw ea,List.length_take];omega);rw[ea] at h;exact h
 have H:∀dA,decide (jD (d.take (jk d)))=dA→x5 s t neg (jk d) dA:=fun dA hdA=>by
  refine⟨by omega,by omega,by omega,fun hn=> ?_,fun hn=>⟨htl.2 hn,fun h0=> ?_⟩,SL,by rw[←hdA];exact DA,fun h=> ?_⟩
  ·subst hn
   have hs':s.data.toList=45::d:=by rw[hs,hle];rfl
   have h0:0<s.size:=by rw[kw hs'];simp
   exact⟨h0,by rw[KP hs' h0];rfl,htl.1 rfl⟩
  ·have hge:=xm s 0 h0
   rw[hs] at hge;exact Yk (n:=45) (by decide) (fun e=>hpre hn (by rw[hge,e];rfl))
  ·rw[←hdA] at h
   have hN:=of_decide_eq_true h
   have:d.take (jk d)≠[]:=by rcases hN.2 with h | h;rw[h];simp;exact h.1
   have h1:0<(d.take (jk d)).length:=List.length_pos_iff.2 this;rw[List.length_take] at h1;omega
 unfold Kk;rw[hA];by_cases hN:jD (d.take (jk d))
 ·have HH:=H true (decide_eq_true hN)
  by_cases hz:neg=true∧d.take (jk d)=[48]
  ·rw[if_pos (.inr hz)]
   exact Rx s t neg _ w HH hz.1 (by rw[ByteArray.toList_eq,ea,hz.2];rfl)
  ·rw[if_neg (by rintro (h | h);exact h hN;exact hz h)]
   have NZ:neg=true→((t.extract 0 (jk d)).toList==[48])=false:=fun hn=>by
    rw[ByteArray.toList_eq,ea]
    have:d.take (jk d)≠[48]:=fun e=>hz ⟨hn,e⟩
    simpa using this
   rcases hc with ⟨hf,hd,_,hB,hlt⟩ | ⟨hf,hd,hk2⟩
   ·rw[if_pos hf,hB]
    have hltI:((jk d:Nat):Int)<(t.size:Int):=by omega
    have DB:∀W,Calls Tryz.prog 104 #[.string (t.extract (jk d+1) t.size)] W (x8 (decide (jD (d.drop (jk d+1)))) W):=fun W=>by
     have h:=US (t.extract (jk d+1) t.size) W (by rw[kw eb,List.length_drop];omega);rw[eb] at h;exact h
    by_cases hNB:jD (d.drop (jk d+1))
    ·have hdB:=decide_eq_true hNB
     by_cases h48:d.drop (jk d+1)=[48]
     ·rw[if_pos (.inr (.inl h48))]
      exact Rp s t neg _ w HH NZ hltI _ DB hdB (by rw[ByteArray.toList_eq,eb,h48];rfl)
     ·have h48':((t.extract (jk d+1) t.size).toList==[48])=false:=by rw[ByteArray.toList_eq,eb];simpa using h48
      by_cases h49:d.drop (jk d+1)=[49]
      ·rw[if_pos (.inr (.inr h49))]
       exact Rq s t neg _ w HH NZ hltI _ DB hdB h48' (by rw[ByteArray.toList_eq,eb,h49];rfl)
      ·have h49':((t.extract (jk d+1) t.size).toList==[49])=false:=by rw[ByteArray.toList_eq,eb];simpa using h49
       rw[if_neg (by rintro (h | h | h);exact h hNB;exact h48 h;exact h49 h)]
       have la:(d.take (jk d)).length=jk d:=by rw[List.length_take];omega
       have lb:(d.drop (jk d+1)).length=d.length-(jk d+1):=List.length_drop;by_cases hla:600<jk d
       ·rw[if_pos (.inl (by omega))]
        exact Ru s t neg _ w HH NZ hltI _ DB hdB h48' h49' (by omega)
       ·by_cases hlb:600<(d.drop (jk d+1)).length
        ·rw[if_pos (.inr hlb)]
         exact Rv s t neg _ w HH NZ hltI _ DB hdB h48' h49' (by omega) (by omega)
        ·rw[if_neg (by omega)]
         have b0:0<jf (d.drop (jk d+1)):=by
          have:=XS hNB (decDigits_one (by decide:(0:Nat)<10)) h48;omega
         have PT:Hid (∀W,Calls Tryz.prog 105 #[.string t] W (xH ((jf (d.take (jk d)):Nat):Int) ((jf (d.drop (jk d+1)):Nat):Int) W)):=hid (fun W=>by
          have na:0<(d.take (jk d)).length:=List.length_pos_iff.2 (by rcases hN.2 with h | h;rw[h];simp;exact h.1);have nb:0<(d.drop (jk d+1)).length:=List.length_pos_iff.2 (by rcases hNB.2 with h | h;rw[h];simp;exact h.1)
          have h:=Wo false (d.take (jk d)) (d.drop (jk d+1)) t W (by rw[ht];conv=>lhs;rw[hd,hA,hB]
                                                                     rfl) hN.1 hNB.1 na nb (by omega) (by omega)
          have e:sg false (jf (d.take (jk d)))=((jf (d.take (jk d)):Nat):Int):=by unfold sg;rw[if_neg (by decide)]
          rw[e] at h;exact h)
         have B1:=hid (Uv (G6 hN.1 (by omega)));have B2:=hid (Uv (G6 hNB.1 (by omega)));by_cases hg:Nat.gcd (jf (d.take (jk d))) (jf (d.drop (jk d+1)))=1
         ·rw[if_pos hg]
          exact Rs s t neg _ w HH NZ hltI _ DB hdB h48' h49' (by omega) (by omega) _ _ PT B1 B2 (hid b0) (hid hg)
         ·rw[if_neg hg]
          exact Rr s t neg _ w HH NZ hltI _ DB hdB h48' h49' (by omega) (by omega) _ _ PT B1 B2 (hid b0) (hid hg)
    ·rw[if_pos (.inl hNB)]
     exact Ro s t neg _ w HH NZ hltI _ DB (decide_eq_false hNB)
   ·rw[if_neg (by rw[hf];decide)]
    have la:(d.take (jk d)).length=d.length:=by rw[List.length_take];omega
    by_cases hla:600<d.length
    ·rw[if_pos (by omega)]
     exact Ry s t neg _ w HH NZ (by omega) (by omega)
    ·rw[if_neg (by omega)]
     exact Rz s t neg _ w HH NZ (by omega) (by omega)
 ·rw[if_pos (.inl hN)]
  exact Rn s t neg _ w (H false (decide_eq_false hN))
variable {l1 l2:List UInt8} {w:World}
--OPS
theorem Uu {x:Nat} (h:x<10^xk):jl x:=jl.of_pow h (.inr UT) (by have:=Jj;omega)
end Go.Proofs.YtneafcdfnhnpnaaGreatDoor
namespace Go.Proofs.YtneafcdfnhnpnaaGreatDoor
open Go.RowKit Go.Lib
theorem Na:(Tryz.prog.info? 22).map (fun i=>(i.zero,i.size,i.bytes))=some (some (.string ⟨#[]⟩),1,16):=by kernel_rfl
theorem Cm (n:Nat):jR (List.replicate n [])=List.replicate n (.string ⟨#[]⟩):=by simp[jR,sv]
theorem ND (w:World) (n:Nat) (hn:n≤1000000):(Instr.makeSlice 85 (.int .i64 (n:Int)) (.int .i64 (n:Int))).run Tryz.prog w = .ok (.slice (some ⟨w.heap.size,0,none⟩) n n) (w.alloc (.cells (jR (List.replicate n [])).toArray 22)):=by
 have:=run_make_row' (P:=Tryz.prog) 85 22 (.string ⟨#[]⟩) 16 Tryz.underlying85 Na rfl .i64 .i64 n (by omega) (by omega) w;rw[z7] at this;rw[Cm];exact this
def zl (L:List Rat) (k:Nat):List jB:=(L.take k).map jg++List.replicate (L.length-k) []
theorem Fo (L:List Rat) (k:Nat) (h:k≤L.length):(zl L k).length=L.length:=by simp[zl];omega
theorem Fp (L:List Rat) (k:Nat) (h:k<L.length):(zl L k).set k (jg (L[k]?.getD 0))=zl L (k+1):=by
 unfold zl;rw[List.take_add_one,List.getElem?_eq_getElem h,List.map_append,List.set_append_right _ _ (by simp;omega),show L.length-k=(L.length-(k+1))+1 by omega,List.replicate_succ,List.length_map,List.length_take,Nat.min_eq_left (by omega),Nat.sub_self,List.set_cons_zero,List.append_assoc];rfl
theorem Cn (L:List jB) (k:Nat) (l:jB):(jR L).set k (.string ⟨l.toArray⟩)=jR (L.set k l):=by simp[jR,List.map_set,sv]
def Md (L:List Rat) (w:World) (e:Ending) (w':World):Prop:=
 Below w.heap.size w w'∧(((∀q∈L,¬kQ q) ∧ ∃g,e = .returned (.tuple #[.slice (some ⟨g,0,none⟩) L.length L.length,.int .i64 0])∧w.heap.size≤g∧ja w' g 22 (jR (L.map jg)))∨((∃q∈L,kQ q)∧e = .returned (.tuple #[jr,.int .i64 4])))
theorem R5 (b n c:Nat) (es:List El) (L:List Rat) (w:World) (hO:jo w b es L) (hn:n=L.length) (hl:n≤1000000) (_hc:n≤c) (hF:∀q∈L,kA q) (hG:jH w):
  Calls Tryz.prog 208 #[.slice (some ⟨b,0,none⟩) n c,.func (.func 124) #[] #[]] w (Md L w):=by
 have hmk:=ND w n hl;have HB:=hid (ja.make w 22 (jR (List.replicate n [])));have HN:=hid hn;have HR:=hid hO;have HF:=hid hF;have HG:=hid hG;clear hn hO hF hG;go_enter Tryz.func208,Tryz.ntmps208
 go_wp2_with fail
 clear hmk
 go_loopg [15] n (fun gh i wr=>∃k:Nat,i = .int .i64 k∧k+gh=n∧Hid (∀q∈L.take k,¬kQ q)∧Hid (ja wr w.heap.size 22 (jR (zl L k)))∧Hid (Below w.heap.size w wr))
 case atStart=>exact⟨0,rfl,by omega,hid (by simp),hid (by have:=HB.out;rw[HN.out] at this ⊢;simpa [zl] using this),hid ((Below.refl _ _).alloc (Nat.le_refl _) _)⟩
 case round=>
  clear HB;obtain⟨k,rfl,hk,hI,hO,hB⟩:=hrel
  cases gk with
  | zero=>
   have hkl:k=n:=by omega
   have hin:¬((k:Int)<(n:Int)):=by omega
   have HI:=hid (show ∀q∈L,¬kQ q by have:=hI.out;rwa [hkl,HN.out,List.take_of_length_le (Nat.le_refl _)] at this);have HO:=hid (show ja wr w.heap.size 22 (jR (L.map jg)) by have:=hO.out;rw[hkl,HN.out] at this;simpa [zl] using this);clear hkl hI hO hk
   go_wp2
   go_ret2;exact⟨hB.out,.inl ⟨HI.out,_,by rw[←HN.out];rfl,Nat.le_refl _,HO.out⟩⟩
  | succ gh=>
   have hlt:k<n:=by omega
   have hlt':(k:Int)<(n:Int):=by omega
   have hltL:k<L.length:=by rw[←HN.out];exact hlt
   obtain⟨q,hq⟩:∃q,L[k]? =some q:=⟨L[k],List.getElem?_eq_getElem hltL⟩
   obtain⟨e,A1,n1,c1,A2,n2,c2,zz0,hee,hrt,y0,y1,y2,zz1,zz2,zz3⟩:=(HR.out.below hB.out).at_ (j:=k) hltL;clear zz0 zz1 zz2 zz3;obtain⟨e0,ea,eb⟩:=e
   have hea:ea = .slice A1 n1 c1∧eb = .slice A2 n2 c2:=by simpa using hee
   obtain⟨rfl,rfl⟩:=hea;clear hee;unfold kX at hrt;dsimp only at y0 hrt;have hbl:b<wr.heap.size:=(HR.out.below hB.out).own.lt;have hqF:=HF.out q (List.mem_of_getElem? hq);have hck2:=(hO.out.cell k).trans (XF _ k (by rw[Fo L k (by omega)];omega));have hfr:=hO.out.free k;have hol:=hO.out.lt;have Hs:=hid (Fp L k hltL);have Ht:Hid (L.take (k+1)=L.take k++[q]):=hid (by rw[List.take_add_one,hq];rfl);have Hm:Hid (q∈L):=hid (List.mem_of_getElem? hq);have Hk:=hid hk
   have hqe:L[k]?.getD 0=q:=by rw[hq];rfl
   rw[hqe] at hrt Hs;have hal:Below wr.heap.size wr (wr.alloc (.cells #[.bool e0,.slice A1 n1 c1,.slice A2 n2 c2] 122)):=(Below.refl _ _).alloc (Nat.le_refl _) _;have WR:=hid (XZ (.agg #[.bool e0,.slice A1 n1 c1,.slice A2 n2 c2]) q _ (hrt.below hal) hqF.1 hqF.2 (HG.out.below (hB.out.trans (hal.mono hB.out.size))));generalize (zl L k)[k]?.getD []=y at *;unfold sv at hck2;clear hq hqF hqe hk hrt hal
   go_wp2_with fail
   refine WR.out.mono ?_;clear WR;rintro e w1 ⟨rfl,hB1⟩;have hB15:Below wr.heap.size wr w1:=((Below.refl wr.heap.size wr).alloc (Nat.le_refl _) _).trans (hB1.mono (by simp));have hck3:=(hB15.cell (p:=⟨w.heap.size,k,none⟩) hol).trans hck2;have hfr3:=(hB15.frozen (p:=⟨w.heap.size,k,none⟩) hol).trans hfr;have hol3:w.heap.size<w1.heap.size:=Nat.lt_of_lt_of_le hol hB15.size;by_cases hlong:kQ q
   ·rw[Qt hlong]
    have HX:Hid (∃q∈L,kQ q):=hid ⟨q,Hm.out,hlong⟩;have HB2:=hid ((hB.out.trans (hB15.mono hB.out.size)).setCell (p:=⟨w.heap.size,k,none⟩) (Nat.le_refl _) (.string ⟨#[]⟩));clear hlong hB1 hB15 hO hB hI y0 y1 y2 hck2 hfr
    go_wp2
    go_ret2;exact⟨HB2.out,.inr ⟨HX.out,rfl⟩⟩
   ·rw[zJ hlong]
    have HI2:Hid (∀q∈L.take (k+1),¬kQ q):=hid (by
     rw[Ht.out];intro z hz;rcases List.mem_append.1 hz with h | h
     ·exact hI.out z h
     ·rw[List.mem_singleton.1 h];exact hlong)
    have HO2:Hid (ja (w1.setCell ⟨w.heap.size,k,none⟩ (.string ⟨(jg q).toArray⟩)) w.heap.size 22 (jR (zl L (k+1)))):=hid (by
     rw[←Hs.out,←Cn];exact(hO.out.below hB15 hol).put _ _)
    have HB2:=hid ((hB.out.trans (hB15.mono hB.out.size)).setCell (p:=⟨w.heap.size,k,none⟩) (Nat.le_refl _) (.string ⟨(jg q).toArray⟩));clear hlong hB1 hB15 hO hB hI y0 y1 y2 hck2 hfr Hs;generalize jg q=tx at *
    go_wp2
    go_roundg gh
    case rel=>exact⟨k+1,by go_num,by have:=Hk.out;omega,HI2,HO2,HB2⟩
    case measure=>omega
theorem Mf (b n c:Nat) (es:List El) (L:List Rat) (w:World) (hO:jo w b es L) (hn:n=L.length) (hl:n≤1000000) (_hc:n≤c) (hF:∀q∈L,kA q) (hG:jH w):
  Calls Tryz.prog 155 #[.slice (some ⟨b,0,none⟩) n c] w (Md L w):=by
 have CW:=hid (R5 b n c es L w hO hn hl _hc hF hG);clear hO hn hF hG;go_enter Tryz.func155,Tryz.ntmps155
 go_wp2_with fail
 refine CW.out.mono ?_;rintro e w1 ⟨hB1,⟨hok,g,rfl,hg,hO1⟩ | ⟨hno,rfl⟩⟩
 ·have HO:=hid hO1
  have HK:=hid hok;clear hO1 hok CW
  go_wp2
  go_ret2;exact⟨hB1,.inl ⟨HK.out,g,rfl,hg,HO.out⟩⟩
 ·have HK:=hid hno
  clear hno CW
  go_wp2
  go_ret2;exact⟨hB1,.inr ⟨HK.out,rfl⟩⟩
def Yd (w:World) (v:Value) (Ls:List (List Rat)):Prop:=
 ∃vs:List Value,jE w v vs∧vs.length=Ls.length ∧ ∀(i:Nat) (L:List Rat),Ls[i]? =some L → ∃b c es,vs[i]? =some (.slice (some ⟨b,0,none⟩) L.length c)∧L.length≤c∧jo w b es L
theorem yU.rowsAt {w:World} {base n:Nat} {v:Value} {B:List (Nat×List Rat)} (h:yU w base v B n) (hl:B.length≤1000000):Yd w v (B.map (·.2)):=by
 refine⟨_,zc h.1 (by omega),by simp,fun i L hL=> ?_⟩;rw[List.getElem?_map] at hL
 cases hb:B[i]? with
 | none=>rw[hb] at hL;cases hL
 | some x=>
  rw[hb] at hL;obtain rfl:=Option.some.inj hL;have:=h.2.2 x (List.mem_of_getElem? hb);obtain⟨es,he⟩:=this.2.1;exact⟨x.1,n,es,by rw[List.getElem?_map,hb,Option.map_some,this.2.2],by rw[this.2.2];exact Nat.le_refl _,he⟩
theorem T9:(Tryz.prog.info? 85).map (fun i=>(i.zero,i.size,i.bytes))=some (some (.slice none 0 0),1,24):=by kernel_rfl
theorem NC (w:World) (n:Nat) (hn:n≤1000000):(Instr.makeSlice 74 (.int .i64 (n:Int)) (.int .i64 (n:Int))).run Tryz.prog w = .ok (.slice (some ⟨w.heap.size,0,none⟩) n n) (w.alloc (.cells (List.replicate n jr).toArray 85)):=by
 have:=run_make_row' (P:=Tryz.prog) 74 85 jr 24 Tryz.underlying74 T9 rfl .i64 .i64 n (by omega) (by omega) w;rw[z7] at this;exact this
structure yC (w wr:World) (g m:Nat) (Ls:List (List Rat)) (k:Nat) (B:List (Nat×List jB)):Prop where
 own:ja wr g 85 ((B.map fun r=>Value.slice (some ⟨r.1,0,none⟩) r.2.length r.2.length)++List.replicate (m-k) jr)
 rows:∀r∈B,w.heap.size≤r.1∧ja wr r.1 22 (jR r.2)∧r.2.length≤1000000
 vals:B.map (·.2)=(Ls.take k).map (·.map jg)
theorem yC.len {w wr:World} {g m k:Nat} {Ls:List (List Rat)} {B:List (Nat×List jB)} (h:yC w wr g m Ls k B) (hk:k≤Ls.length):B.length=k:=by
 have:=congrArg List.length h.vals;simp at this;omega
theorem yC.step {w wr w1:World} {g gn k:Nat} {Ls:List (List Rat)} {B:List (Nat×List jB)} {L:List Rat} (h:yC w wr g Ls.length Ls k B) (hk:Ls[k]? =some L) (hL:L.length≤1000000) (hb:Below wr.heap.size wr w1) (hg:w.heap.size≤gn) (hO:ja w1 gn 22 (jR (L.map jg))):
  yC w (w1.setCell ⟨g,k,none⟩ (.slice (some ⟨gn,0,none⟩) L.length L.length)) g Ls.length Ls (k+1) (B++[(gn,L.map jg)]):=by
 have hkl:k<Ls.length:=(List.getElem?_eq_some_iff.1 hk).1;have hB:=h.len (by omega);have hO1:=h.own.below hb h.own.lt
 have hne:∀(b:Nat) (cs:List Value),ja w1 b 22 cs→b≠g:=fun b cs h1 e=>by
  unfold ja at h1 hO1;rw[e,hO1] at h1
  injection h1 with h1
  injection h1 with _ h1
  exact absurd h1 (by decide)
 refine⟨?_,fun x hx=> ?_,?_⟩
 ·have:=hO1.put k (.slice (some ⟨gn,0,none⟩) L.length L.length)
  rw[List.set_append_right _ _ (by simp[hB]),show Ls.length-k=(Ls.length-(k+1))+1 by omega,List.replicate_succ,List.length_map,hB,Nat.sub_self,List.set_cons_zero] at this;rw[List.map_append,List.append_assoc];simpa using this
 ·rcases List.mem_append.1 hx with hx | hx
  ·have:=h.rows x hx
   have h1:=this.2.1.below hb this.2.1.lt;exact⟨this.1,h1.other (p:=⟨g,k,none⟩) (hne _ _ h1) _,this.2.2⟩
  ·obtain rfl:=List.mem_singleton.1 hx
   exact⟨hg,hO.other (p:=⟨g,k,none⟩) (hne _ _ hO) _,by simpa using hL⟩
 ·rw[List.map_append,h.vals,List.take_add_one,hk,List.map_append];rfl
def yS (Ls:List (List Rat)):Prop:=∀L∈Ls,∀q∈L,¬kQ q
def Me (Ls:List (List Rat)) (w:World) (e:Ending) (w':World):Prop:=
 Below w.heap.size w w'∧((yS Ls ∧ ∃(g:Nat) (B:List (Nat×List jB)),e = .returned (.tuple #[.slice (some ⟨g,0,none⟩) Ls.length Ls.length,.int .i64 0])∧w.heap.size≤g∧yC w w' g Ls.length Ls Ls.length B)∨(¬yS Ls∧e = .returned (.tuple #[jr,.int .i64 4])))
theorem R4 (v:Value) (Ls:List (List Rat)) (w:World) (hv:Yd w v Ls) (hl:Ls.length≤1000000) (hL:∀L∈Ls,L.length≤1000000 ∧ ∀q∈L,kA q) (hG:jH w):
  Calls Tryz.prog 200 #[v,.func (.func 155) #[] #[]] w (Me Ls w):=by
 obtain⟨vs,hs,hvl,hrow⟩:=hv;obtain⟨A,c,rfl,hc1,hc2,hcell⟩:=hs;have HROW:=hid hrow;have HC:=hid hcell;have HL:=hid hL;have HG:=hid hG;have Hvl:=hid hvl;rw[hvl] at hc1 hc2 ⊢;clear hrow hcell hL hG hvl;have hmk:=NC w Ls.length hl;have HO:=hid (ja.make w 85 (List.replicate Ls.length jr));go_enter Tryz.func200,Tryz.ntmps200
 go_wp2_with fail
 clear hmk
 go_loopg [15] Ls.length (fun gh i wr=>∃(k:Nat) (B:List (Nat×List jB)),i = .int .i64 k∧k+gh=Ls.length∧Hid (yS (Ls.take k))∧Hid (yC w wr w.heap.size Ls.length Ls k B)∧Hid (Below w.heap.size w wr))
 case atStart=>exact⟨0,[],rfl,by omega,hid (by unfold yS;simp),hid ⟨by simpa using HO.out,by simp,by simp⟩,hid ((Below.refl _ _).alloc (Nat.le_refl _) _)⟩
 case round=>
  clear HO;obtain⟨k,B,rfl,hk,hI,hT,hB⟩:=hrel
  cases gk with
  | zero=>
   have hkl:k=Ls.length:=by omega
   have hin:¬((k:Int)<(Ls.length:Int)):=by omega
   have HI:=hid (show yS Ls by have:=hI.out;rwa [hkl,List.take_of_length_le (Nat.le_refl _)] at this);rw[hkl] at hT;clear hkl hI hk
   go_wp2
   go_ret2;exact⟨hB.out,.inl ⟨HI.out,_,B,rfl,Nat.le_refl _,hT.out⟩⟩
  | succ gh=>
   have hlt:k<Ls.length:=by omega
   have hlt':(k:Int)<(Ls.length:Int):=by omega
   obtain⟨L,hL0⟩:∃L,Ls[k]? =some L:=⟨Ls[k],List.getElem?_eq_getElem hlt⟩
   obtain⟨b,cb,es,hvk,hcb,hR⟩:=HROW.out k L hL0;obtain⟨b0,off,rfl,hbb,hcell⟩:=HC.out (by rw[Hvl.out];omega);have hck:=(hB.out.cell (p:=⟨b0,off+k,none⟩) hbb).trans ((hcell k (by rw[Hvl.out];exact hlt)).trans hvk);obtain⟨hL1,hL2⟩:=HL.out L (List.mem_of_getElem? hL0);have WR:=hid (Mf b L.length cb es L wr (hR.below hB.out) rfl hL1 hcb hL2 (HG.out.below hB.out))
   have hck2:=(hT.out.own.cell k).trans (show _=some jr by
    rw[List.getElem?_append_right (by rw[List.length_map,hT.out.len (by omega)];exact Nat.le_refl _),List.length_map,hT.out.len (by omega),Nat.sub_self,List.getElem?_replicate,if_pos (by omega)])
   have hfr:=hT.out.own.free k;have hol:=hT.out.own.lt;have Ht:Hid (Ls.take (k+1)=Ls.take k++[L]):=hid (by rw[List.take_add_one,hL0];rfl);have Hm:=hid (List.mem_of_getElem? hL0);have HL0:=hid hL0;have Hk:=hid hk;clear hcell hL0 hk hvk hR hL2
   go_wp2_with fail
   refine WR.out.mono ?_;clear WR;rintro e w1 ⟨hB1,⟨hok,gn,rfl,hgn,hO1⟩ | ⟨hno,rfl⟩⟩
   ·have hck3:=(hB1.cell (p:=⟨w.heap.size,k,none⟩) hol).trans hck2
    have hfr3:=(hB1.frozen (p:=⟨w.heap.size,k,none⟩) hol).trans hfr;have hol3:w.heap.size<w1.heap.size:=Nat.lt_of_lt_of_le hol hB1.size
    have HI2:Hid (yS (Ls.take (k+1))):=hid (by
     rw[Ht.out];intro z hz;rcases List.mem_append.1 hz with h | h
     ·exact hI.out z h
     ·rw[List.mem_singleton.1 h];exact hok)
    have HT2:=hid (hT.out.step HL0.out hL1 hB1 (Nat.le_trans hB.out.size hgn) hO1);have HB2:=hid ((hB.out.trans (hB1.mono hB.out.size)).setCell (p:=⟨w.heap.size,k,none⟩) (Nat.le_refl _) (.slice (some ⟨gn,0,none⟩) L.length L.length));clear hok hB1 hO1 hT hB hI hck2 hfr hck
    go_wp2
    go_roundg gh
    case rel=>exact⟨k+1,_,by go_num,by have:=Hk.out;omega,HI2,HT2,HB2⟩
    case measure=>omega
   ·have hck3:=(hB1.cell (p:=⟨w.heap.size,k,none⟩) hol).trans hck2
    have hfr3:=(hB1.frozen (p:=⟨w.heap.size,k,none⟩) hol).trans hfr;have hol3:w.heap.size<w1.heap.size:=Nat.lt_of_lt_of_le hol hB1.size;have HX:Hid (¬yS Ls):=hid (fun h=>by obtain⟨q,hq,hl⟩:=hno;exact h L Hm.out q hq hl);have HB2:=hid ((hB.out.trans (hB1.mono hB.out.size)).setCell (p:=⟨w.heap.size,k,none⟩) (Nat.le_refl _) jr);clear hno hB1 hT hB hI hck2 hfr hck
    go_wp2
    go_ret2;exact⟨HB2.out,.inr ⟨HX.out,rfl⟩⟩
theorem FM (v:Value) (Ls:List (List Rat)) (w:World) (hv:Yd w v Ls) (hl:Ls.length≤1000000) (hL:∀L∈Ls,L.length≤1000000 ∧ ∀q∈L,kA q) (hG:jH w):
  Calls Tryz.prog 146 #[v] w (Me Ls w):=by
 have CW:=hid (R4 v Ls w hv hl hL hG);obtain⟨vs,⟨A,c,rfl,_,_,_⟩,hvl,_⟩:=hv;rw[hvl] at CW ⊢;clear hL hG hvl;go_enter Tryz.func146,Tryz.ntmps146
 go_wp2_with fail
 refine CW.out.mono ?_;rintro e w1 ⟨hB1,⟨hok,g,B,rfl,hg,hO1⟩ | ⟨hno,rfl⟩⟩
 ·have HO:=hid hO1
  have HK:=hid hok;clear hO1 hok CW
  go_wp2
  go_ret2;exact⟨hB1,.inl ⟨HK.out,g,B,rfl,hg,HO.out⟩⟩
 ·have HK:=hid hno
  clear hno CW
  go_wp2
  go_ret2;exact⟨hB1,.inr ⟨HK.out,rfl⟩⟩
