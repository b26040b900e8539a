/- Contract of the reference: the error of a number. -/
import Derived.Test.YteagkgagdelklaaGreatDoorZT33
set_option maxRecDepth 100000
set_option maxHeartbeats 4000000
namespace Go.Proofs.YteagkgagdelklaaGreatDoor
open Go.RowKit Go.Lib
theorem Z8 (l:List UInt8) (j:Nat):occAt l [47] j=true↔l[j]? =some 47:=by
 unfold occAt;rw[←List.head?_drop]
 cases l.drop j with
 | nil=>simp
 | cons a r=>simp[List.isPrefixOf];exact⟨fun h=>h.symm,fun h=>h.symm⟩
theorem UF {l:List UInt8} (h:jo l<l.length):l[jo l]? =some 47:=by
 have h3:List.findIdx (fun x=>x==47) l<l.length:=h;have:=List.findIdx_getElem (p:=(· ==47)) (w:=h3);rw[Qaa h]
 have e:l[jo l]=47:=by simpa [jo] using this
 exact congrArg some e
theorem OP {l:List UInt8} {j:Nat} (h:j<jo l):l[j]? ≠some 47:=by
 intro e;obtain⟨hl,hg⟩:=List.getElem?_eq_some_iff.1 e;have:=List.not_of_lt_findIdx h;rw[hg] at this;simp at this
theorem Nm (l:List UInt8):cut l [47]=if jo l<l.length then (l.take (jo l),l.drop (jo l+1),true) else (l,[],false):=by
 have hle:=K3 l;unfold cut
 rcases index_spec l [47] with ⟨e,hno⟩ | ⟨i,e,hi,ho,hn⟩
 ·have h:¬jo l<l.length:=by
   intro h;have:=(Z8 l (jo l)).2 (UF h);rw[hno _ hle] at this;cases this
  rw[if_neg h,e,if_neg (by decide)]
 ·have h47:=(Z8 l i).1 ho
  have hil:i<l.length:=(List.getElem?_eq_some_iff.1 h47).1
  have hs:jo l=i:=by
   rcases Qck (jo l) i with h | h | h
   ·exfalso
    have h1:=(Z8 l (jo l)).2 (UF (by omega));have h2:=hn (jo l) h;rw[h1] at h2;cases h2
   ·exact h
   ·exact absurd h47 (OP h)
  rw[e,hs,if_pos (by omega),if_pos hil];rfl
def yH (c:Int) (w:World) (e:Ending) (w':World):Prop:=e = .returned (.int .i64 c)∧Below w.heap.size w w'
structure yw (s t:ByteArray) (neg:Bool) (k:Nat) (dA:Bool):Prop where
 hsz:(s.size:Int)≤4000000000000000000
 htz:(t.size:Int)≤4000000000000000000
 hk:(k:Int)≤(t.size:Int)
 hn:neg=true → ∃h:0<s.size,(((s[0]'h).toNat:Int)==45)=true∧s.extract 1 s.size=t
 hp:neg=false→s=t ∧ ∀h:0<s.size,(((s[0]'h).toNat:Int)==45)=false
 SL:∀W,Calls Tryz.prog 118 #[.string t] W (xX k W)
 DA:∀W,Calls Tryz.prog 119 #[.string (t.extract 0 k)] W (yE dA W)
 ne:dA=true→0<s.size
theorem TG (s t:ByteArray) (neg:Bool) (k:Nat) (w:World) (H:yw s t neg k false):
  Calls Tryz.prog 75 #[.string s] w (yH 1 w):=by
 obtain⟨hsz,htz,hk,hn,hp,SL0,DA0,ne⟩:=H;have SL:=hid SL0;have DA:=hid DA0;clear SL0 DA0
 cases neg with
 | true=>
  obtain⟨h0,hc,hte⟩:=hn rfl
  have h0I:(0:Int)<(s.size:Int):=by omega
  have h1I:(1:Int)≤(s.size:Int):=by omega
  have HTE:=hid hte;clear hn hp ne hte;go_enter Tryz.func75,Tryz.ntmps75
  go_wp2_with fail
  rw[HTE.out];refine(SL.out _).mono ?_;rintro e w1 ⟨rfl,rfl⟩
  go_wp2_with fail
  refine(DA.out _).mono ?_;rintro e w1 ⟨rfl,rfl⟩
  go_wp2
  go_ret;exact⟨rfl,Below.refl _ _⟩
 | false=>
  obtain⟨rfl,hc0⟩:=hp rfl;clear hn hp ne;by_cases h0:0<s.size
  ·have hc:=hc0 h0
   have h0I:(0:Int)<(s.size:Int):=by omega
   clear hc0;go_enter Tryz.func75,Tryz.ntmps75
   go_wp2_with fail
   refine(SL.out _).mono ?_;rintro e w1 ⟨rfl,rfl⟩
   go_wp2_with fail
   refine(DA.out _).mono ?_;rintro e w1 ⟨rfl,rfl⟩
   go_wp2
   go_ret;exact⟨rfl,Below.refl _ _⟩
  ·have h0I:¬(0:Int)<(s.size:Int):=by omega
   clear hc0;go_enter Tryz.func75,Tryz.ntmps75
   go_wp2_with fail
   refine(SL.out _).mono ?_;rintro e w1 ⟨rfl,rfl⟩
   go_wp2_with fail
   refine(DA.out _).mono ?_;rintro e w1 ⟨rfl,rfl⟩
   go_wp2
   go_ret;exact⟨rfl,Below.refl _ _⟩
theorem TT (s t:ByteArray) (neg:Bool) (k:Nat) (w:World) (H:yw s t neg k true) (hneg:neg=true) (hz:((t.extract 0 k).toList==[48])=true):
  Calls Tryz.prog 75 #[.string s] w (yH 1 w):=by
 obtain⟨hsz,htz,hk,hn,hp,SL0,DA0,ne⟩:=H;have SL:=hid SL0;have DA:=hid DA0;clear SL0 DA0
 cases neg with
 | true=>
  obtain⟨h0,hc,hte⟩:=hn rfl
  have h0I:(0:Int)<(s.size:Int):=by omega
  have h1I:(1:Int)≤(s.size:Int):=by omega
  have HTE:=hid hte;clear hn hp ne hte;go_enter Tryz.func75,Tryz.ntmps75
  go_wp2_with fail
  rw[HTE.out];refine(SL.out _).mono ?_;rintro e w1 ⟨rfl,rfl⟩
  go_wp2_with fail
  refine(DA.out _).mono ?_;rintro e w1 ⟨rfl,rfl⟩
  go_wp2
  go_ret;exact⟨rfl,Below.refl _ _⟩
 | false=>
  cases hneg
theorem TU (s t:ByteArray) (neg:Bool) (k:Nat) (w:World) (H:yw s t neg k true) (hz:neg=true→((t.extract 0 k).toList==[48])=false) (hkk:k=t.size) (hl:(600:Int)<k):
  Calls Tryz.prog 75 #[.string s] w (yH 4 w):=by
 obtain⟨hsz,htz,hk,hn,hp,SL0,DA0,ne⟩:=H;have SL:=hid SL0;have DA:=hid DA0;clear SL0 DA0
 have hlt:¬(k:Int)<(t.size:Int):=by omega
 have hd1:(t.size:Int)-(k:Int)-1 = -1:=by omega
 have hd2:¬(600:Int)<(t.size:Int)-(k:Int)-1:=by omega
 clear hkk hd1
 cases neg with
 | true=>
  obtain⟨h0,hc,hte⟩:=hn rfl
  have h0I:(0:Int)<(s.size:Int):=by omega
  have h1I:(1:Int)≤(s.size:Int):=by omega
  have HTE:=hid hte;clear hn hp ne hte;have hz1:=hz rfl;clear hz;go_enter Tryz.func75,Tryz.ntmps75
  go_wp2_with fail
  rw[HTE.out];refine(SL.out _).mono ?_;rintro e w1 ⟨rfl,rfl⟩
  go_wp2_with fail
  refine(DA.out _).mono ?_;rintro e w1 ⟨rfl,rfl⟩
  go_wp2
  go_ret;exact⟨rfl,Below.refl _ _⟩
 | false=>
  obtain⟨rfl,hc0⟩:=hp rfl;have h0:=ne rfl;have hc:=hc0 h0
  have h0I:(0:Int)<(s.size:Int):=by omega
  clear hn hp ne hc0 hz;go_enter Tryz.func75,Tryz.ntmps75
  go_wp2_with fail
  refine(SL.out _).mono ?_;rintro e w1 ⟨rfl,rfl⟩
  go_wp2_with fail
  refine(DA.out _).mono ?_;rintro e w1 ⟨rfl,rfl⟩
  go_wp2
  go_ret;exact⟨rfl,Below.refl _ _⟩
theorem TV (s t:ByteArray) (neg:Bool) (k:Nat) (w:World) (H:yw s t neg k true) (hz:neg=true→((t.extract 0 k).toList==[48])=false) (hkk:k=t.size) (hl:¬(600:Int)<k):
  Calls Tryz.prog 75 #[.string s] w (yH 0 w):=by
 obtain⟨hsz,htz,hk,hn,hp,SL0,DA0,ne⟩:=H;have SL:=hid SL0;have DA:=hid DA0;clear SL0 DA0
 have hlt:¬(k:Int)<(t.size:Int):=by omega
 have hd1:(t.size:Int)-(k:Int)-1 = -1:=by omega
 have hd2:¬(600:Int)<(t.size:Int)-(k:Int)-1:=by omega
 clear hkk hd1
 cases neg with
 | true=>
  obtain⟨h0,hc,hte⟩:=hn rfl
  have h0I:(0:Int)<(s.size:Int):=by omega
  have h1I:(1:Int)≤(s.size:Int):=by omega
  have HTE:=hid hte;clear hn hp ne hte;have hz1:=hz rfl;clear hz;go_enter Tryz.func75,Tryz.ntmps75
  go_wp2_with fail
  rw[HTE.out];refine(SL.out _).mono ?_;rintro e w1 ⟨rfl,rfl⟩
  go_wp2_with fail
  refine(DA.out _).mono ?_;rintro e w1 ⟨rfl,rfl⟩
  go_wp2
  go_ret;exact⟨rfl,Below.refl _ _⟩
 | false=>
  obtain⟨rfl,hc0⟩:=hp rfl;have h0:=ne rfl;have hc:=hc0 h0
  have h0I:(0:Int)<(s.size:Int):=by omega
  clear hn hp ne hc0 hz;go_enter Tryz.func75,Tryz.ntmps75
  go_wp2_with fail
  refine(SL.out _).mono ?_;rintro e w1 ⟨rfl,rfl⟩
  go_wp2_with fail
  refine(DA.out _).mono ?_;rintro e w1 ⟨rfl,rfl⟩
  go_wp2
  go_ret;exact⟨rfl,Below.refl _ _⟩
theorem TH (s t:ByteArray) (neg:Bool) (k:Nat) (w:World) (H:yw s t neg k true) (hz:neg=true→((t.extract 0 k).toList==[48])=false) (hlt:(k:Int)<(t.size:Int)) (dB:Bool) (DB0:∀W,Calls Tryz.prog 119 #[.string (t.extract (k+1) t.size)] W (yE dB W)) (hdB:dB=false):
  Calls Tryz.prog 75 #[.string s] w (yH 1 w):=by
 obtain⟨hsz,htz,hk,hn,hp,SL0,DA0,ne⟩:=H;have SL:=hid SL0;have DA:=hid DA0;clear SL0 DA0;have DB:=hid DB0;clear DB0
 have hk1:(k:Int)+1≤(t.size:Int):=by omega
 subst hdB
 cases neg with
 | true=>
  obtain⟨h0,hc,hte⟩:=hn rfl
  have h0I:(0:Int)<(s.size:Int):=by omega
  have h1I:(1:Int)≤(s.size:Int):=by omega
  have HTE:=hid hte;clear hn hp ne hte;have hz1:=hz rfl;clear hz;go_enter Tryz.func75,Tryz.ntmps75
  go_wp2_with fail
  rw[HTE.out];refine(SL.out _).mono ?_;rintro e w1 ⟨rfl,rfl⟩
  go_wp2_with fail
  refine(DA.out _).mono ?_;rintro e w1 ⟨rfl,rfl⟩
  go_wp2_with fail
  refine(DB.out _).mono ?_;rintro e w1 ⟨rfl,rfl⟩
  go_wp2
  go_ret;exact⟨rfl,Below.refl _ _⟩
 | false=>
  obtain⟨rfl,hc0⟩:=hp rfl;have h0:=ne rfl;have hc:=hc0 h0
  have h0I:(0:Int)<(s.size:Int):=by omega
  clear hn hp ne hc0 hz;go_enter Tryz.func75,Tryz.ntmps75
  go_wp2_with fail
  refine(SL.out _).mono ?_;rintro e w1 ⟨rfl,rfl⟩
  go_wp2_with fail
  refine(DA.out _).mono ?_;rintro e w1 ⟨rfl,rfl⟩
  go_wp2_with fail
  refine(DB.out _).mono ?_;rintro e w1 ⟨rfl,rfl⟩
  go_wp2
  go_ret;exact⟨rfl,Below.refl _ _⟩
theorem TJ (s t:ByteArray) (neg:Bool) (k:Nat) (w:World) (H:yw s t neg k true) (hz:neg=true→((t.extract 0 k).toList==[48])=false) (hlt:(k:Int)<(t.size:Int)) (dB:Bool) (DB0:∀W,Calls Tryz.prog 119 #[.string (t.extract (k+1) t.size)] W (yE dB W)) (hdB:dB=true) (hb0:((t.extract (k+1) t.size).toList==[48])=true):
  Calls Tryz.prog 75 #[.string s] w (yH 1 w):=by
 obtain⟨hsz,htz,hk,hn,hp,SL0,DA0,ne⟩:=H;have SL:=hid SL0;have DA:=hid DA0;clear SL0 DA0;have DB:=hid DB0;clear DB0
 have hk1:(k:Int)+1≤(t.size:Int):=by omega
 subst hdB
 cases neg with
 | true=>
  obtain⟨h0,hc,hte⟩:=hn rfl
  have h0I:(0:Int)<(s.size:Int):=by omega
  have h1I:(1:Int)≤(s.size:Int):=by omega
  have HTE:=hid hte;clear hn hp ne hte;have hz1:=hz rfl;clear hz;go_enter Tryz.func75,Tryz.ntmps75
  go_wp2_with fail
  rw[HTE.out];refine(SL.out _).mono ?_;rintro e w1 ⟨rfl,rfl⟩
  go_wp2_with fail
  refine(DA.out _).mono ?_;rintro e w1 ⟨rfl,rfl⟩
  go_wp2_with fail
  refine(DB.out _).mono ?_;rintro e w1 ⟨rfl,rfl⟩
  go_wp2
  go_ret;exact⟨rfl,Below.refl _ _⟩
 | false=>
  obtain⟨rfl,hc0⟩:=hp rfl;have h0:=ne rfl;have hc:=hc0 h0
  have h0I:(0:Int)<(s.size:Int):=by omega
  clear hn hp ne hc0 hz;go_enter Tryz.func75,Tryz.ntmps75
  go_wp2_with fail
  refine(SL.out _).mono ?_;rintro e w1 ⟨rfl,rfl⟩
  go_wp2_with fail
  refine(DA.out _).mono ?_;rintro e w1 ⟨rfl,rfl⟩
  go_wp2_with fail
  refine(DB.out _).mono ?_;rintro e w1 ⟨rfl,rfl⟩
  go_wp2
  go_ret;exact⟨rfl,Below.refl _ _⟩
theorem TK (s t:ByteArray) (neg:Bool) (k:Nat) (w:World) (H:yw s t neg k true) (hz:neg=true→((t.extract 0 k).toList==[48])=false) (hlt:(k:Int)<(t.size:Int)) (dB:Bool) (DB0:∀W,Calls Tryz.prog 119 #[.string (t.extract (k+1) t.size)] W (yE dB W)) (hdB:dB=true) (hb0:((t.extract (k+1) t.size).toList==[48])=false) (hb1:((t.extract (k+1) t.size).toList==[49])=true):
  Calls Tryz.prog 75 #[.string s] w (yH 1 w):=by
 obtain⟨hsz,htz,hk,hn,hp,SL0,DA0,ne⟩:=H;have SL:=hid SL0;have DA:=hid DA0;clear SL0 DA0;have DB:=hid DB0;clear DB0
 have hk1:(k:Int)+1≤(t.size:Int):=by omega
 subst hdB
 cases neg with
 | true=>
  obtain⟨h0,hc,hte⟩:=hn rfl
  have h0I:(0:Int)<(s.size:Int):=by omega
  have h1I:(1:Int)≤(s.size:Int):=by omega
  have HTE:=hid hte;clear hn hp ne hte;have hz1:=hz rfl;clear hz;go_enter Tryz.func75,Tryz.ntmps75
  go_wp2_with fail
  rw[HTE.out];refine(SL.out _).mono ?_;rintro e w1 ⟨rfl,rfl⟩
  go_wp2_with fail
  refine(DA.out _).mono ?_;rintro e w1 ⟨rfl,rfl⟩
  go_wp2_with fail
  refine(DB.out _).mono ?_;rintro e w1 ⟨rfl,rfl⟩
  go_wp2
  go_ret;exact⟨rfl,Below.refl _ _⟩
 | false=>
  obtain⟨rfl,hc0⟩:=hp rfl;have h0:=ne rfl;have hc:=hc0 h0
  have h0I:(0:Int)<(s.size:Int):=by omega
  clear hn hp ne hc0 hz;go_enter Tryz.func75,Tryz.ntmps75
  go_wp2_with fail
  refine(SL.out _).mono ?_;rintro e w1 ⟨rfl,rfl⟩
  go_wp2_with fail
  refine(DA.out _).mono ?_;rintro e w1 ⟨rfl,rfl⟩
  go_wp2_with fail
  refine(DB.out _).mono ?_;rintro e w1 ⟨rfl,rfl⟩
  go_wp2
  go_ret;exact⟨rfl,Below.refl _ _⟩
theorem TO (s t:ByteArray) (neg:Bool) (k:Nat) (w:World) (H:yw s t neg k true) (hz:neg=true→((t.extract 0 k).toList==[48])=false) (hlt:(k:Int)<(t.size:Int)) (dB:Bool) (DB0:∀W,Calls Tryz.prog 119 #[.string (t.extract (k+1) t.size)] W (yE dB W)) (hdB:dB=true) (hb0:((t.extract (k+1) t.size).toList==[48])=false) (hb1:((t.extract (k+1) t.size).toList==[49])=false) (hl:(600:Int)<k):
  Calls Tryz.prog 75 #[.string s] w (yH 4 w):=by
 obtain⟨hsz,htz,hk,hn,hp,SL0,DA0,ne⟩:=H;have SL:=hid SL0;have DA:=hid DA0;clear SL0 DA0;have DB:=hid DB0;clear DB0
 have hk1:(k:Int)+1≤(t.size:Int):=by omega
 subst hdB
 cases neg with
 | true=>
  obtain⟨h0,hc,hte⟩:=hn rfl
  have h0I:(0:Int)<(s.size:Int):=by omega
  have h1I:(1:Int)≤(s.size:Int):=by omega
  have HTE:=hid hte;clear hn hp ne hte;have hz1:=hz rfl;clear hz;go_enter Tryz.func75,Tryz.ntmps75
  go_wp2_with fail
  rw[HTE.out];refine(SL.out _).mono ?_;rintro e w1 ⟨rfl,rfl⟩
  go_wp2_with fail
  refine(DA.out _).mono ?_;rintro e w1 ⟨rfl,rfl⟩
  go_wp2_with fail
  refine(DB.out _).mono ?_;rintro e w1 ⟨rfl,rfl⟩
  go_wp2
  go_ret;exact⟨rfl,Below.refl _ _⟩
 | false=>
  obtain⟨rfl,hc0⟩:=hp rfl;have h0:=ne rfl;have hc:=hc0 h0
  have h0I:(0:Int)<(s.size:Int):=by omega
  clear hn hp ne hc0 hz;go_enter Tryz.func75,Tryz.ntmps75
  go_wp2_with fail
  refine(SL.out _).mono ?_;rintro e w1 ⟨rfl,rfl⟩
  go_wp2_with fail
  refine(DA.out _).mono ?_;rintro e w1 ⟨rfl,rfl⟩
  go_wp2_with fail
  refine(DB.out _).mono ?_;rintro e w1 ⟨rfl,rfl⟩
  go_wp2
  go_ret;exact⟨rfl,Below.refl _ _⟩
theorem TS (s t:ByteArray) (neg:Bool) (k:Nat) (w:World) (H:yw s t neg k true) (hz:neg=true→((t.extract 0 k).toList==[48])=false) (hlt:(k:Int)<(t.size:Int)) (dB:Bool) (DB0:∀W,Calls Tryz.prog 119 #[.string (t.extract (k+1) t.size)] W (yE dB W)) (hdB:dB=true) (hb0:((t.extract (k+1) t.size).toList==[48])=false) (hb1:((t.extract (k+1) t.size).toList==[49])=false) (hl:¬(600:Int)<k) (hl2:(600:Int)<(t.size:Int)-k-1):
  Calls Tryz.prog 75 #[.string s] w (yH 4 w):=by
 obtain⟨hsz,htz,hk,hn,hp,SL0,DA0,ne⟩:=H;have SL:=hid SL0;have DA:=hid DA0;clear SL0 DA0;have DB:=hid DB0;clear DB0
 have hk1:(k:Int)+1≤(t.size:Int):=by omega
 subst hdB
 cases neg with
 | true=>
  obtain⟨h0,hc,hte⟩:=hn rfl
  have h0I:(0:Int)<(s.size:Int):=by omega
  have h1I:(1:Int)≤(s.size:Int):=by omega
  have HTE:=hid hte;clear hn hp ne hte;have hz1:=hz rfl;clear hz;go_enter Tryz.func75,Tryz.ntmps75
  go_wp2_with fail
  rw[HTE.out];refine(SL.out _).mono ?_;rintro e w1 ⟨rfl,rfl⟩
  go_wp2_with fail
  refine(DA.out _).mono ?_;rintro e w1 ⟨rfl,rfl⟩
  go_wp2_with fail
  refine(DB.out _).mono ?_;rintro e w1 ⟨rfl,rfl⟩
  go_wp2
  go_ret;exact⟨rfl,Below.refl _ _⟩
 | false=>
  obtain⟨rfl,hc0⟩:=hp rfl;have h0:=ne rfl;have hc:=hc0 h0
  have h0I:(0:Int)<(s.size:Int):=by omega
  clear hn hp ne hc0 hz;go_enter Tryz.func75,Tryz.ntmps75
  go_wp2_with fail
  refine(SL.out _).mono ?_;rintro e w1 ⟨rfl,rfl⟩
  go_wp2_with fail
  refine(DA.out _).mono ?_;rintro e w1 ⟨rfl,rfl⟩
  go_wp2_with fail
  refine(DB.out _).mono ?_;rintro e w1 ⟨rfl,rfl⟩
  go_wp2
  go_ret;exact⟨rfl,Below.refl _ _⟩
theorem Xu {w:World} {x y:Nat} {b1 b2:Bool} {A1 A2:Option Addr} {m1 m2 c1 c2:Nat} (r1:Ri w (.agg #[.bool b1,.slice A1 m1 c1]) (x:Int)) (r2:Ri w (.agg #[.bool b2,.slice A2 m2 c2]) (y:Int)) (bx:jQ x) (by_:jQ y):
  Calls Tryz.prog 121 #[.slice A1 m1 c1,.slice A2 m2 c2] w (XD (Nat.gcd x y) w):=by
 obtain⟨dx,hx,hdx⟩:=r1.dg;obtain⟨dy,hy,hdy⟩:=r2.dg
 have e1:dx = .slice A1 m1 c1:=by
  simp at hx;exact hx.2.symm
 have e2:dy = .slice A2 m2 c2:=by
  simp at hy;exact hy.2.symm
 rw[e1,QaO] at hdx;rw[e2,QaO] at hdy;exact Y4 _ _ x y w hdx hdy bx by_
theorem TN (s t:ByteArray) (neg:Bool) (k:Nat) (w:World) (H:yw s t neg k true) (hz:neg=true→((t.extract 0 k).toList==[48])=false) (hlt:(k:Int)<(t.size:Int)) (dB:Bool) (DB0:∀W,Calls Tryz.prog 119 #[.string (t.extract (k+1) t.size)] W (yE dB W)) (hdB:dB=true) (hb0:((t.extract (k+1) t.size).toList==[48])=false) (hb1:((t.extract (k+1) t.size).toList==[49])=false) (hl:¬(600:Int)<k) (hl2:¬(600:Int)<(t.size:Int)-k-1) (x y:Nat) (PT:Hid (∀W,Calls Tryz.prog 120 #[.string t] W (ya (x:Int) (y:Int) W))) (bx:Hid (jQ x)) (by_:Hid (jQ y)) (_hy:Hid (0<y)) (HG:Hid (Nat.gcd x y=1)):
  Calls Tryz.prog 75 #[.string s] w (yH 0 w):=by
 obtain⟨hsz,htz,hk,hn,hp,SL0,DA0,ne⟩:=H;have SL:=hid SL0;have DA:=hid DA0;clear SL0 DA0;have DB:=hid DB0;clear DB0
 have hk1:(k:Int)+1≤(t.size:Int):=by omega
 subst hdB
 cases neg with
 | true=>
  obtain⟨h0,hc,hte⟩:=hn rfl
  have h0I:(0:Int)<(s.size:Int):=by omega
  have h1I:(1:Int)≤(s.size:Int):=by omega
  have HTE:=hid hte;clear hn hp ne hte;have hz1:=hz rfl;clear hz;go_enter Tryz.func75,Tryz.ntmps75
  go_wp2_with fail
  rw[HTE.out];refine(SL.out _).mono ?_;rintro e w1 ⟨rfl,rfl⟩
  go_wp2_with fail
  refine(DA.out _).mono ?_;rintro e w1 ⟨rfl,rfl⟩
  go_wp2_with fail
  refine(DB.out _).mono ?_;rintro e w1 ⟨rfl,rfl⟩
  go_wp2_with fail
  refine(PT.out _).mono ?_;rintro e w1 ⟨vp,vq,rfl,rp,rq,hB1⟩;obtain⟨Ap,np,cp,rfl,_,_⟩:=rp.open_;obtain⟨Aq,nq_,cq,rfl,_,_⟩:=rq.open_;generalize decide ((x:Int)<0)=bp at *;generalize decide ((y:Int)<0)=bq at *;obtain⟨W1,hW1,hBW1,hz1,o1,o2,rp1,rq1⟩:=Jk rp rq
  go_upto_region 13 with fail
  rw[←hW1];have HB1:=hid (hB1.trans (hBW1.mono hB1.size));have CM:=hid (Xu rp1 rq1 bx.out by_.out);obtain⟨a0,a1⟩:=o1.cell2;obtain⟨b0,b1⟩:=o2.cell2;clear hW1 hBW1 hz1 o1 o2 rp1 rq1 rp rq hB1 PT
  go_wp2_with fail
  refine CM.out.mono ?_;rintro e w2 ⟨gv,rfl,hg,hB2⟩;have HBF:=hid (HB1.out.trans (hB2.mono HB1.out.size));clear hB2 CM;rw[HG.out] at hg;obtain⟨gb,go_,gc,rfl,hgb,hgc⟩:=hg.one (by decide) (by decide);clear hg
  go_wp2
  go_ret;exact⟨rfl,HBF.out⟩
 | false=>
  obtain⟨rfl,hc0⟩:=hp rfl;have h0:=ne rfl;have hc:=hc0 h0
  have h0I:(0:Int)<(s.size:Int):=by omega
  clear hn hp ne hc0 hz;go_enter Tryz.func75,Tryz.ntmps75
  go_wp2_with fail
  refine(SL.out _).mono ?_;rintro e w1 ⟨rfl,rfl⟩
  go_wp2_with fail
  refine(DA.out _).mono ?_;rintro e w1 ⟨rfl,rfl⟩
  go_wp2_with fail
  refine(DB.out _).mono ?_;rintro e w1 ⟨rfl,rfl⟩
  go_wp2_with fail
  refine(PT.out _).mono ?_;rintro e w1 ⟨vp,vq,rfl,rp,rq,hB1⟩;obtain⟨Ap,np,cp,rfl,_,_⟩:=rp.open_;obtain⟨Aq,nq_,cq,rfl,_,_⟩:=rq.open_;generalize decide ((x:Int)<0)=bp at *;generalize decide ((y:Int)<0)=bq at *;obtain⟨W1,hW1,hBW1,hz1,o1,o2,rp1,rq1⟩:=Jk rp rq
  go_upto_region 13 with fail
  rw[←hW1];have HB1:=hid (hB1.trans (hBW1.mono hB1.size));have CM:=hid (Xu rp1 rq1 bx.out by_.out);obtain⟨a0,a1⟩:=o1.cell2;obtain⟨b0,b1⟩:=o2.cell2;clear hW1 hBW1 hz1 o1 o2 rp1 rq1 rp rq hB1 PT
  go_wp2_with fail
  refine CM.out.mono ?_;rintro e w2 ⟨gv,rfl,hg,hB2⟩;have HBF:=hid (HB1.out.trans (hB2.mono HB1.out.size));clear hB2 CM;rw[HG.out] at hg;obtain⟨gb,go_,gc,rfl,hgb,hgc⟩:=hg.one (by decide) (by decide);clear hg
  go_wp2
  go_ret;exact⟨rfl,HBF.out⟩
theorem TL (s t:ByteArray) (neg:Bool) (k:Nat) (w:World) (H:yw s t neg k true) (hz:neg=true→((t.extract 0 k).toList==[48])=false) (hlt:(k:Int)<(t.size:Int)) (dB:Bool) (DB0:∀W,Calls Tryz.prog 119 #[.string (t.extract (k+1) t.size)] W (yE dB W)) (hdB:dB=true) (hb0:((t.extract (k+1) t.size).toList==[48])=false) (hb1:((t.extract (k+1) t.size).toList==[49])=false) (hl:¬(600:Int)<k) (hl2:¬(600:Int)<(t.size:Int)-k-1) (x y:Nat) (PT:Hid (∀W,Calls Tryz.prog 120 #[.string t] W (ya (x:Int) (y:Int) W))) (bx:Hid (jQ x)) (by_:Hid (jQ y)) (hy:Hid (0<y)) (HG:Hid (Nat.gcd x y≠1)):
  Calls Tryz.prog 75 #[.string s] w (yH 1 w):=by
 obtain⟨hsz,htz,hk,hn,hp,SL0,DA0,ne⟩:=H;have SL:=hid SL0;have DA:=hid DA0;clear SL0 DA0;have DB:=hid DB0;clear DB0
 have hk1:(k:Int)+1≤(t.size:Int):=by omega
 subst hdB
 cases neg with
 | true=>
  obtain⟨h0,hc,hte⟩:=hn rfl
  have h0I:(0:Int)<(s.size:Int):=by omega
  have h1I:(1:Int)≤(s.size:Int):=by omega
  have HTE:=hid hte;clear hn hp ne hte;have hz1:=hz rfl;clear hz;go_enter Tryz.func75,Tryz.ntmps75
  go_wp2_with fail
  rw[HTE.out];refine(SL.out _).mono ?_;rintro e w1 ⟨rfl,rfl⟩
  go_wp2_with fail
  refine(DA.out _).mono ?_;rintro e w1 ⟨rfl,rfl⟩
  go_wp2_with fail
  refine(DB.out _).mono ?_;rintro e w1 ⟨rfl,rfl⟩
  go_wp2_with fail
  refine(PT.out _).mono ?_;rintro e w1 ⟨vp,vq,rfl,rp,rq,hB1⟩;obtain⟨Ap,np,cp,rfl,_,_⟩:=rp.open_;obtain⟨Aq,nq_,cq,rfl,_,_⟩:=rq.open_;generalize decide ((x:Int)<0)=bp at *;generalize decide ((y:Int)<0)=bq at *;obtain⟨W1,hW1,hBW1,hz1,o1,o2,rp1,rq1⟩:=Jk rp rq
  go_upto_region 13 with fail
  rw[←hW1];have HB1:=hid (hB1.trans (hBW1.mono hB1.size));have CM:=hid (Xu rp1 rq1 bx.out by_.out);obtain⟨a0,a1⟩:=o1.cell2;obtain⟨b0,b1⟩:=o2.cell2;clear hW1 hBW1 hz1 o1 o2 rp1 rq1 rp rq hB1 PT
  go_wp2_with fail
  refine CM.out.mono ?_;rintro e w2 ⟨gv,rfl,hg,hB2⟩;have HBF:=hid (HB1.out.trans (hB2.mono HB1.out.size));clear hB2 CM
  rcases Yr hg (QaY _ hy.out) HG.out with ⟨A9,n9,c9,rfl,hqn,hql⟩ | ⟨qb,qo,qc2,rfl,hqb,hqc,hqv⟩
  ·have hqn2:((n9:Int) != 1)=true:=by simpa using hqn
   clear hg
   go_wp2
   go_ret;exact⟨rfl,HBF.out⟩
  ·have hqv2:(((Nat.gcd x y:Nat):Int) != 1)=true:=by simpa using hqv
   clear hg;generalize Nat.gcd x y=g at *
   go_wp2
   go_ret;exact⟨rfl,HBF.out⟩
 | false=>
  obtain⟨rfl,hc0⟩:=hp rfl;have h0:=ne rfl;have hc:=hc0 h0
  have h0I:(0:Int)<(s.size:Int):=by omega
  clear hn hp ne hc0 hz;go_enter Tryz.func75,Tryz.ntmps75
  go_wp2_with fail
  refine(SL.out _).mono ?_;rintro e w1 ⟨rfl,rfl⟩
  go_wp2_with fail
  refine(DA.out _).mono ?_;rintro e w1 ⟨rfl,rfl⟩
  go_wp2_with fail
  refine(DB.out _).mono ?_;rintro e w1 ⟨rfl,rfl⟩
  go_wp2_with fail
  refine(PT.out _).mono ?_;rintro e w1 ⟨vp,vq,rfl,rp,rq,hB1⟩;obtain⟨Ap,np,cp,rfl,_,_⟩:=rp.open_;obtain⟨Aq,nq_,cq,rfl,_,_⟩:=rq.open_;generalize decide ((x:Int)<0)=bp at *;generalize decide ((y:Int)<0)=bq at *;obtain⟨W1,hW1,hBW1,hz1,o1,o2,rp1,rq1⟩:=Jk rp rq
  go_upto_region 13 with fail
  rw[←hW1];have HB1:=hid (hB1.trans (hBW1.mono hB1.size));have CM:=hid (Xu rp1 rq1 bx.out by_.out);obtain⟨a0,a1⟩:=o1.cell2;obtain⟨b0,b1⟩:=o2.cell2;clear hW1 hBW1 hz1 o1 o2 rp1 rq1 rp rq hB1 PT
  go_wp2_with fail
  refine CM.out.mono ?_;rintro e w2 ⟨gv,rfl,hg,hB2⟩;have HBF:=hid (HB1.out.trans (hB2.mono HB1.out.size));clear hB2 CM
  rcases Yr hg (QaY _ hy.out) HG.out with ⟨A9,n9,c9,rfl,hqn,hql⟩ | ⟨qb,qo,qc2,rfl,hqb,hqc,hqv⟩
  ·have hqn2:((n9:Int) != 1)=true:=by simpa using hqn
   clear hg
   go_wp2
   go_ret;exact⟨rfl,HBF.out⟩
  ·have hqv2:(((Nat.gcd x y:Nat):Int) != 1)=true:=by simpa using hqv
   clear hg;generalize Nat.gcd x y=g at *
   go_wp2
   go_ret;exact⟨rfl,HBF.out⟩
