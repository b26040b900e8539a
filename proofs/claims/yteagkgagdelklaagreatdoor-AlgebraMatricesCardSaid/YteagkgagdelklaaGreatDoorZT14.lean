/- Contract of the reference: the parts of short numbers. -/
import Derived.Test.YteagkgagdelklaaGreatDoorZT12
set_option maxRecDepth 100000
set_option maxHeartbeats 2000000
namespace Go.Proofs.YteagkgagdelklaaGreatDoor
open Go.RowKit Go.Lib
def JJ (neg:Bool) (n d:Nat) (w:World) (e:Ending) (w':World):Prop:=e = .returned (.tuple #[.int .i64 (sg neg n),.int .i64 d,.bool true])∧w=w'
theorem kG {s:ByteArray} {l:List UInt8} (h:s.data.toList=l):s.size=l.length:=by rw[←h];simp
theorem xK {s:ByteArray} {l:List UInt8} (h:s.data.toList=l) (a b:Nat):(s.extract a b).data.toList=(l.take b).drop a:=by
 rw[←h];simp[List.drop_take]
theorem Qt {s:ByteArray} {c:UInt8} {l:List UInt8} (h:s.data.toList=c::l) (h0:0<s.size):s[0]=c:=by
 have:=xI s 0 h0;rw[h] at this;simpa using this.symm
theorem ZZ {c:UInt8} (h:48≤c.toNat∧c.toNat≤57):((c.toNat:Int)==45)=false:=by simpa using (by omega:¬(c.toNat:Int)=45)
theorem Zb {n:Nat} (h:n<1000000000):(decDigits n).length≤9:=by rw[decDigits_length];exact J9 8 n h
theorem z8 (n:Nat):0<(decDigits n).length:=List.length_pos_iff.2 (Nx n)
theorem Vs {t:ByteArray} {n d:Nat} (ht:t.data.toList=decDigits n++47::decDigits d) (hn:n<1000000000) (hd:d<1000000000):
  ∃k:Nat,(0:Int)<k∧(k:Int)≤9∧(k:Int)+1≤(t.size:Int)∧(k:Int)<(t.size:Int)∧(t.size:Int)-k≤10∧t.size≤20∧(∀w,Calls Tryz.prog 118 #[.string t] w (xX k w)) ∧
   (∀w,Calls Tryz.prog 170 #[.string (t.extract 0 k)] w (xX n w))∧(∀w,Calls Tryz.prog 170 #[.string (t.extract (k+1) t.size)] w (xX d w)):=by
 have hz:=kG ht;have hl:=Zb hn;have hl0:=z8 n;have hm:=Zb hd;rw[Qaf,QaR] at hz;refine⟨(decDigits n).length,by omega,by omega,by omega,by omega,by omega,by omega,fun w=> ?_,fun w=> ?_,fun w=> ?_⟩
 ·have h:=Jh t w (by omega)
  rw[ht,Yq (xr n)] at h;exact h
 ·have e:(t.extract 0 (decDigits n).length).data.toList=decDigits n:=by rw[xK ht];simp
  have h:=Q5 (t.extract 0 (decDigits n).length) w (by rw[kG e];omega) (by rw[e];exact xr n);rw[e,Jy] at h;exact h
 ·have e:(t.extract ((decDigits n).length+1) t.size).data.toList=decDigits d:=by
   rw[xK ht,Qad (by rw[Qaf,QaR];omega),List.drop_append];simp
  have h:=Q5 (t.extract ((decDigits n).length+1) t.size) w (by rw[kG e];omega) (by rw[e];exact xr d);rw[e,Jy] at h;exact h
theorem EU {t:ByteArray} {n:Nat} (ht:t.data.toList=decDigits n) (hn:n<1000000000):
  (0:Int)<t.size∧(t.size:Int)≤9∧(∀w,Calls Tryz.prog 118 #[.string t] w (xX t.size w))∧(∀w,Calls Tryz.prog 170 #[.string t] w (xX n w)):=by
 have hz:=kG ht;have hl:=Zb hn;have hl0:=z8 n;refine⟨by omega,by omega,fun w=> ?_,fun w=> ?_⟩
 ·have h:=Jh t w (by omega)
  rw[ht,QV (xr n),←hz] at h;exact h
 ·have h:=Q5 t w (by omega) (by rw[ht];exact xr n)
  rw[ht,Jy] at h;exact h
theorem Ws {s:ByteArray} {n:Nat} {r:List UInt8} (hs:s.data.toList=decDigits n++r):∃h:0<s.size,(((s[0]'h).toNat:Int)==45)=false:=by
 have hz:=kG hs;have hl0:=z8 n;rw[Qaf] at hz
 have h0:0<s.size:=by omega
 have hge:=xI s 0 h0;refine⟨h0,ZZ (xr n _ ?_)⟩;rw[hs,QaB hl0] at hge;exact Qab hge
theorem FL (s:ByteArray) (n:Nat) (w:World) (hs:s.data.toList=decDigits n) (hn:n<1000000000):
  Calls Tryz.prog 136 #[.string s] w (JJ false n 1 w):=by
 have HN:=hid hn;clear hn;have hb:=hs;obtain⟨h0,hc⟩:=Ws (n:=n) (r:=[]) (by rw[hs];simp);obtain⟨k0,k9,k5,k6⟩:=EU hb HN.out;have SL:=hid k5;have V1:=hid k6;clear k5 k6
 have hz20:(s.size:Int)≤20:=by omega
 have hz0:(0:Int)<(s.size:Int):=by omega
 clear hs hb
 have HNL:(n:Int)≤4000000000000000000:=by have:=HN.out;omega
 go_enter Tryz.func136,Tryz.ntmps136
 go_wp2_with fail
 refine(SL.out _).mono ?_;rintro e w1 ⟨rfl,rfl⟩
 go_wp2_with fail
 refine(V1.out _).mono ?_;rintro e w1 ⟨rfl,rfl⟩
 go_wp2
 go_ret3;exact⟨rfl,rfl⟩
theorem FK (s:ByteArray) (n d:Nat) (w:World) (hs:s.data.toList=decDigits n++47::decDigits d) (hn:n<1000000000) (hd:d<1000000000):
  Calls Tryz.prog 136 #[.string s] w (JJ false n d w):=by
 have HN:=hid hn;clear hn;have HD:=hid hd;clear hd;have hb:=hs;obtain⟨h0,hc⟩:=Ws (r:=47::decDigits d) (by rw[hs]);obtain⟨k,k0,k9,k1,k2,k3,k4,k5,k6,k7⟩:=Vs hb HN.out HD.out;have SL:=hid k5;have V1:=hid k6;have V2:=hid k7;clear k5 k6 k7
 have hz20:(s.size:Int)≤20:=by omega
 have hz0:(0:Int)<(s.size:Int):=by omega
 clear hs hb
 have HNL:(n:Int)≤4000000000000000000:=by have:=HN.out;omega
 go_enter Tryz.func136,Tryz.ntmps136
 go_wp2_with fail
 refine(SL.out _).mono ?_;rintro e w1 ⟨rfl,rfl⟩
 go_wp2_with fail
 refine(V1.out _).mono ?_;rintro e w1 ⟨rfl,rfl⟩
 go_wp2_with fail
 refine(V2.out _).mono ?_;rintro e w1 ⟨rfl,rfl⟩
 go_wp2
 go_ret3;exact⟨rfl,rfl⟩
theorem FJ (s:ByteArray) (n:Nat) (w:World) (hs:s.data.toList=45::(decDigits n)) (hn:n<1000000000):
  Calls Tryz.prog 136 #[.string s] w (JJ true n 1 w):=by
 have HN:=hid hn;clear hn
 obtain⟨t,ht⟩:∃t,s.extract 1 s.size=t:=⟨_,rfl⟩
 have hb:t.data.toList=decDigits n:=by rw[←ht,xK hs,kG hs,Qad (Nat.le_refl _)];rfl
 have HTE:=hid ht;clear ht
 have hsz:s.size=t.size+1:=by rw[kG hs,kG hb];rfl
 have h0:0<s.size:=by omega
 have hc:(((s[0]).toNat:Int)==45)=true:=by rw[Qt hs h0];rfl
 obtain⟨k0,k9,k5,k6⟩:=EU hb HN.out;have SL:=hid k5;have V1:=hid k6;clear k5 k6
 have hz20:(s.size:Int)≤20:=by omega
 have hz0:(0:Int)<(s.size:Int):=by omega
 have hz1:(1:Int)≤(s.size:Int):=by omega
 clear hsz;clear hs hb
 have HNL:(n:Int)≤4000000000000000000:=by have:=HN.out;omega
 go_enter Tryz.func136,Tryz.ntmps136
 go_wp2_with fail
 rw[HTE.out];clear HTE;refine(SL.out _).mono ?_;rintro e w1 ⟨rfl,rfl⟩
 go_wp2_with fail
 refine(V1.out _).mono ?_;rintro e w1 ⟨rfl,rfl⟩
 go_wp2
 go_ret3;exact⟨rfl,rfl⟩
theorem FI (s:ByteArray) (n d:Nat) (w:World) (hs:s.data.toList=45::(decDigits n++47::decDigits d)) (hn:n<1000000000) (hd:d<1000000000):
  Calls Tryz.prog 136 #[.string s] w (JJ true n d w):=by
 have HN:=hid hn;clear hn;have HD:=hid hd;clear hd
 obtain⟨t,ht⟩:∃t,s.extract 1 s.size=t:=⟨_,rfl⟩
 have hb:t.data.toList=decDigits n++47::decDigits d:=by rw[←ht,xK hs,kG hs,Qad (Nat.le_refl _)];rfl
 have HTE:=hid ht;clear ht
 have hsz:s.size=t.size+1:=by rw[kG hs,kG hb];rfl
 have h0:0<s.size:=by omega
 have hc:(((s[0]).toNat:Int)==45)=true:=by rw[Qt hs h0];rfl
 obtain⟨k,k0,k9,k1,k2,k3,k4,k5,k6,k7⟩:=Vs hb HN.out HD.out;have SL:=hid k5;have V1:=hid k6;have V2:=hid k7;clear k5 k6 k7
 have hz20:(s.size:Int)≤20:=by omega
 have hz0:(0:Int)<(s.size:Int):=by omega
 have hz1:(1:Int)≤(s.size:Int):=by omega
 clear hsz;clear hs hb
 have HNL:(n:Int)≤4000000000000000000:=by have:=HN.out;omega
 go_enter Tryz.func136,Tryz.ntmps136
 go_wp2_with fail
 rw[HTE.out];clear HTE;refine(SL.out _).mono ?_;rintro e w1 ⟨rfl,rfl⟩
 go_wp2_with fail
 refine(V1.out _).mono ?_;rintro e w1 ⟨rfl,rfl⟩
 go_wp2_with fail
 refine(V2.out _).mono ?_;rintro e w1 ⟨rfl,rfl⟩
 go_wp2
 go_ret3;exact⟨rfl,rfl⟩
def qC (q:Rat):Prop:=q.num.natAbs<1000000000∧q.den<1000000000
theorem QO (q:Rat) (w:World) (h:qC q):
  Calls Tryz.prog 136 #[.string ⟨(jh q).toArray⟩] w (fun e w'=>e = .returned (.tuple #[.int .i64 q.num,.int .i64 (q.den:Int),.bool true])∧w=w'):=by
 obtain⟨h1,h2⟩:=h;by_cases hn:q.num<0
 ·have e:sg true q.num.natAbs=q.num:=by unfold sg;rw[if_pos rfl];omega
  by_cases hd:q.den=1
  ·have h:=FJ ⟨(jh q).toArray⟩ q.num.natAbs w (by unfold jh;rw[if_pos hn,if_pos hd];simp) h1
   unfold JJ at h;rw[e] at h;rw[hd];exact h
  ·have h:=FI ⟨(jh q).toArray⟩ q.num.natAbs q.den w (by unfold jh;rw[if_pos hn,if_neg hd];simp) h1 h2
   unfold JJ at h;rw[e] at h;exact h
 ·have e:sg false q.num.natAbs=q.num:=by unfold sg;rw[if_neg (by decide)];omega
  by_cases hd:q.den=1
  ·have h:=FL ⟨(jh q).toArray⟩ q.num.natAbs w (by unfold jh;rw[if_neg hn,if_pos hd];simp) h1
   unfold JJ at h;rw[e] at h;rw[hd];exact h
  ·have h:=FK ⟨(jh q).toArray⟩ q.num.natAbs q.den w (by unfold jh;rw[if_neg hn,if_neg hd];simp) h1 h2
   unfold JJ at h;rw[e] at h;exact h
theorem Ui {a b:Int} (ha:a.natAbs<1000000000) (hb:b.natAbs<1000000000): -1000000000000000000≤a*b∧a*b≤1000000000000000000:=by
 have h:(a*b).natAbs≤1000000000*1000000000:=by
  rw[QbB];exact Qbh (Qbo ha) (Qbo hb)
 omega
theorem Gv {a b:Nat} (ha:a<1000000000) (hb:b<1000000000):a*b≤1000000000000000000:=
 Qap (Qbh (Qbo ha) (Qbo hb)) (by decide)
def Yh (n:Int) (d:Int) (w:World) (e:Ending) (w':World):Prop:=e = .returned (.tuple #[.int .i64 n,.int .i64 d,.bool true])∧w=w'
theorem Rs (s t:ByteArray) (l:List UInt8) (n d m e X1 X2 X3:Int) (w:World) (hs:Hid (∀w,Calls Tryz.prog 136 #[.string s] w (Yh n d w))) (ht:Hid (∀w,Calls Tryz.prog 136 #[.string t] w (Yh m e w)))
  (h1:wrap64 (n*e)=X1) (h2:wrap64 (m*d)=X2) (h3:wrap64 (d*e)=X3) (b1: -1000000000000000000≤X1∧X1≤1000000000000000000) (b2: -1000000000000000000≤X2∧X2≤1000000000000000000)
  (hO:Hid (∀w,Calls Tryz.prog 137 #[.int .i64 (X1+X2),.int .i64 X3] w (qh l w))):
  Calls Tryz.prog 139 #[.string s,.string t] w (qh l w):=by
 go_enter Tryz.func139,Tryz.ntmps139
 go_wp2_with fail
 refine(hs.out _).mono ?_;rintro e1 w1 ⟨rfl,rfl⟩
 go_wp2_with fail
 refine(ht.out _).mono ?_;rintro e1 w1 ⟨rfl,rfl⟩
 go_wp2_with fail
 refine(hO.out _).mono ?_;rintro e1 w1 ⟨rfl,hB⟩
 go_wp2
 go_ret;exact⟨rfl,hB⟩
theorem RY (s t:ByteArray) (l:List UInt8) (n d m e X1 X3:Int) (w:World) (hs:Hid (∀w,Calls Tryz.prog 136 #[.string s] w (Yh n d w))) (ht:Hid (∀w,Calls Tryz.prog 136 #[.string t] w (Yh m e w)))
  (h1:wrap64 (n*m)=X1) (h3:wrap64 (d*e)=X3)
  (hO:Hid (∀w,Calls Tryz.prog 137 #[.int .i64 X1,.int .i64 X3] w (qh l w))):
  Calls Tryz.prog 93 #[.string s,.string t] w (qh l w):=by
 go_enter Tryz.func93,Tryz.ntmps93
 go_wp2_with fail
 refine(hs.out _).mono ?_;rintro e1 w1 ⟨rfl,rfl⟩
 go_wp2_with fail
 refine(ht.out _).mono ?_;rintro e1 w1 ⟨rfl,rfl⟩
 go_wp2_with fail
 refine(hO.out _).mono ?_;rintro e1 w1 ⟨rfl,hB⟩
 go_wp2
 go_ret;exact⟨rfl,hB⟩
theorem Rq (p q:Rat) (w:World) (hp:qC p) (hq:qC q):
  Calls Tryz.prog 139 #[.string ⟨(jh p).toArray⟩,.string ⟨(jh q).toArray⟩] w (qh (jh (p+q)) w):=by
 have e1:=Ui (a:=p.num) (b:=(q.den:Int)) hp.1 hq.2;have e2:=Ui (a:=q.num) (b:=(p.den:Int)) hq.1 hp.2;have e3:=Gv hp.2 hq.2;have hdp:=Nat.mul_pos p.den_pos q.den_pos
 refine Rs _ _ _ p.num p.den q.num q.den (p.num*q.den) (q.num*p.den) ((p.den*q.den:Nat):Int) w (hid fun w=>QO p w hp) (hid fun w=>QO q w hq)
  (IntWalk.wrap64_in _ (by omega)) (IntWalk.wrap64_in _ (by omega)) (by rw[←QaM];exact IntWalk.wrap64_in _ (by omega)) e1 e2 (hid fun w=> ?_)
 have h:=U7 (p.num*q.den+q.num*p.den) (p.den*q.den) w (by omega) hdp (by omega);rw[←Rat.add_def'] at h;exact h
theorem RU (p q:Rat) (w:World) (hp:qC p) (hq:qC q):
  Calls Tryz.prog 93 #[.string ⟨(jh p).toArray⟩,.string ⟨(jh q).toArray⟩] w (qh (jh (p*q)) w):=by
 have e1:=Ui (a:=p.num) (b:=q.num) hp.1 hq.1;have e3:=Gv hp.2 hq.2;have hdp:=Nat.mul_pos p.den_pos q.den_pos
 refine RY _ _ _ p.num p.den q.num q.den (p.num*q.num) ((p.den*q.den:Nat):Int) w (hid fun w=>QO p w hp) (hid fun w=>QO q w hq)
  (IntWalk.wrap64_in _ (by omega)) (by rw[←QaM];exact IntWalk.wrap64_in _ (by omega)) (hid fun w=> ?_)
 have h:=U7 (p.num*q.num) (p.den*q.den) w (by omega) hdp (by omega);rw[←Rat.mul_def'] at h;exact h
