/- Contract of the reference: the parts of short numbers. -/
import Derived.Test.YtneafcdfnhnpnaaGreatDoorZD15
set_option maxRecDepth 100000
set_option maxHeartbeats 2000000
namespace Go.Proofs.YtneafcdfnhnpnaaGreatDoor
open Go.RowKit Go.Lib
def Ja (neg:Bool) (n d:Nat) (w:World) (e:Ending) (w':World):Prop:=e = .returned (.tuple #[.int .i64 (sg neg n),.int .i64 d,.bool true])∧w=w'
theorem kC {s:ByteArray} {l:List UInt8} (h:s.data.toList=l):s.size=l.length:=by rw[←h];simp
theorem xI {s:ByteArray} {l:List UInt8} (h:s.data.toList=l) (a b:Nat):(s.extract a b).data.toList=(l.take b).drop a:=by
 rw[←h];simp[List.drop_take]
theorem KM {s:ByteArray} {c:UInt8} {l:List UInt8} (h:s.data.toList=c::l) (h0:0<s.size):s[0]=c:=by
 have:=xr s 0 h0;rw[h] at this;simpa using this.symm
theorem Za {c:UInt8} (h:48≤c.toNat∧c.toNat≤57):((c.toNat:Int)==45)=false:=by simpa using (by omega:¬(c.toNat:Int)=45)
theorem Yr {n:Nat} (h:n<1000000000):(decDigits n).length≤9:=by rw[decDigits_length];exact Jx 8 n h
theorem zw (n:Nat):0<(decDigits n).length:=List.length_pos_iff.2 (Sz n)
theorem Ux {t:ByteArray} {n d:Nat} (ht:t.data.toList=decDigits n++47::decDigits d) (hn:n<1000000000) (hd:d<1000000000):
  ∃k:Nat,(0:Int)<k∧(k:Int)≤9∧(k:Int)+1≤(t.size:Int)∧(k:Int)<(t.size:Int)∧(t.size:Int)-k≤10∧t.size≤20∧(∀w,Calls Tryz.prog 103 #[.string t] w (xG k w)) ∧
   (∀w,Calls Tryz.prog 180 #[.string (t.extract 0 k)] w (xG n w))∧(∀w,Calls Tryz.prog 180 #[.string (t.extract (k+1) t.size)] w (xG d w)):=by
 have hz:=kC ht;have hl:=Yr hn;have hl0:=zw n;have hm:=Yr hd;rw[List.length_append,List.length_cons] at hz;refine⟨(decDigits n).length,by omega,by omega,by omega,by omega,by omega,by omega,fun w=> ?_,fun w=> ?_,fun w=> ?_⟩
 ·have h:=zF t w (by omega)
  rw[ht,Xz (qZ n)] at h;exact h
 ·have e:(t.extract 0 (decDigits n).length).data.toList=decDigits n:=by rw[xI ht];simp
  have h:=Qo (t.extract 0 (decDigits n).length) w (by rw[kC e];omega) (by rw[e];exact qZ n);rw[e,zT] at h;exact h
 ·have e:(t.extract ((decDigits n).length+1) t.size).data.toList=decDigits d:=by
   rw[xI ht,List.take_of_length_le (by rw[List.length_append,List.length_cons];omega),List.drop_append];simp
  have h:=Qo (t.extract ((decDigits n).length+1) t.size) w (by rw[kC e];omega) (by rw[e];exact qZ d);rw[e,zT] at h;exact h
theorem Mi {t:ByteArray} {n:Nat} (ht:t.data.toList=decDigits n) (hn:n<1000000000):
  (0:Int)<t.size∧(t.size:Int)≤9∧(∀w,Calls Tryz.prog 103 #[.string t] w (xG t.size w))∧(∀w,Calls Tryz.prog 180 #[.string t] w (xG n w)):=by
 have hz:=kC ht;have hl:=Yr hn;have hl0:=zw n;refine⟨by omega,by omega,fun w=> ?_,fun w=> ?_⟩
 ·have h:=zF t w (by omega)
  rw[ht,Qk (qZ n),←hz] at h;exact h
 ·have h:=Qo t w (by omega) (by rw[ht];exact qZ n)
  rw[ht,zT] at h;exact h
theorem Vt {s:ByteArray} {n:Nat} {r:List UInt8} (hs:s.data.toList=decDigits n++r):∃h:0<s.size,(((s[0]'h).toNat:Int)==45)=false:=by
 have hz:=kC hs;have hl0:=zw n;rw[List.length_append] at hz
 have h0:0<s.size:=by omega
 have hge:=xr s 0 h0;refine⟨h0,Za (qZ n _ ?_)⟩;rw[hs,List.getElem?_append_left hl0] at hge;exact List.mem_of_getElem? hge
theorem BO (s:ByteArray) (n:Nat) (w:World) (hs:s.data.toList=decDigits n) (hn:n<1000000000):
  Calls Tryz.prog 116 #[.string s] w (Ja false n 1 w):=by
 have HN:=hid hn;clear hn;have hb:=hs;obtain⟨h0,hc⟩:=Vt (n:=n) (r:=[]) (by rw[hs];simp);obtain⟨k0,k9,k5,k6⟩:=Mi hb HN.out;have SL:=hid k5;have V1:=hid k6;clear k5 k6
 have hz20:(s.size:Int)≤20:=by omega
 have hz0:(0:Int)<(s.size:Int):=by omega
 clear hs hb
 have HNL:(n:Int)≤4000000000000000000:=by have:=HN.out;omega
 go_enter Tryz.func116,Tryz.ntmps116
 go_wp2_with fail
 refine(SL.out _).mono ?_;rintro e w1 ⟨rfl,rfl⟩
 go_wp2_with fail
 refine(V1.out _).mono ?_;rintro e w1 ⟨rfl,rfl⟩
 go_wp2
 go_ret3;exact⟨rfl,rfl⟩
theorem BM (s:ByteArray) (n d:Nat) (w:World) (hs:s.data.toList=decDigits n++47::decDigits d) (hn:n<1000000000) (hd:d<1000000000):
  Calls Tryz.prog 116 #[.string s] w (Ja false n d w):=by
 have HN:=hid hn;clear hn;have HD:=hid hd;clear hd;have hb:=hs;obtain⟨h0,hc⟩:=Vt (r:=47::decDigits d) (by rw[hs]);obtain⟨k,k0,k9,k1,k2,k3,k4,k5,k6,k7⟩:=Ux hb HN.out HD.out;have SL:=hid k5;have V1:=hid k6;have V2:=hid k7;clear k5 k6 k7
 have hz20:(s.size:Int)≤20:=by omega
 have hz0:(0:Int)<(s.size:Int):=by omega
 clear hs hb
 have HNL:(n:Int)≤4000000000000000000:=by have:=HN.out;omega
 go_enter Tryz.func116,Tryz.ntmps116
 go_wp2_with fail
 refine(SL.out _).mono ?_;rintro e w1 ⟨rfl,rfl⟩
 go_wp2_with fail
 refine(V1.out _).mono ?_;rintro e w1 ⟨rfl,rfl⟩
 go_wp2_with fail
 refine(V2.out _).mono ?_;rintro e w1 ⟨rfl,rfl⟩
 go_wp2
 go_ret3;exact⟨rfl,rfl⟩
theorem BL (s:ByteArray) (n:Nat) (w:World) (hs:s.data.toList=45::(decDigits n)) (hn:n<1000000000):
  Calls Tryz.prog 116 #[.string s] w (Ja true n 1 w):=by
 have HN:=hid hn;clear hn
 obtain⟨t,ht⟩:∃t,s.extract 1 s.size=t:=⟨_,rfl⟩
 have hb:t.data.toList=decDigits n:=by rw[←ht,xI hs,kC hs,List.take_of_length_le (Nat.le_refl _)];rfl
 have HTE:=hid ht;clear ht
 have hsz:s.size=t.size+1:=by rw[kC hs,kC hb];rfl
 have h0:0<s.size:=by omega
 have hc:(((s[0]).toNat:Int)==45)=true:=by rw[KM hs h0];rfl
 obtain⟨k0,k9,k5,k6⟩:=Mi hb HN.out;have SL:=hid k5;have V1:=hid k6;clear k5 k6
 have hz20:(s.size:Int)≤20:=by omega
 have hz0:(0:Int)<(s.size:Int):=by omega
 have hz1:(1:Int)≤(s.size:Int):=by omega
 clear hsz;clear hs hb
 have HNL:(n:Int)≤4000000000000000000:=by have:=HN.out;omega
 go_enter Tryz.func116,Tryz.ntmps116
 go_wp2_with fail
 rw[HTE.out];clear HTE;refine(SL.out _).mono ?_;rintro e w1 ⟨rfl,rfl⟩
 go_wp2_with fail
 refine(V1.out _).mono ?_;rintro e w1 ⟨rfl,rfl⟩
 go_wp2
 go_ret3;exact⟨rfl,rfl⟩
theorem BK (s:ByteArray) (n d:Nat) (w:World) (hs:s.data.toList=45::(decDigits n++47::decDigits d)) (hn:n<1000000000) (hd:d<1000000000):
  Calls Tryz.prog 116 #[.string s] w (Ja true n d w):=by
 have HN:=hid hn;clear hn;have HD:=hid hd;clear hd
 obtain⟨t,ht⟩:∃t,s.extract 1 s.size=t:=⟨_,rfl⟩
 have hb:t.data.toList=decDigits n++47::decDigits d:=by rw[←ht,xI hs,kC hs,List.take_of_length_le (Nat.le_refl _)];rfl
 have HTE:=hid ht;clear ht
 have hsz:s.size=t.size+1:=by rw[kC hs,kC hb];rfl
 have h0:0<s.size:=by omega
 have hc:(((s[0]).toNat:Int)==45)=true:=by rw[KM hs h0];rfl
 obtain⟨k,k0,k9,k1,k2,k3,k4,k5,k6,k7⟩:=Ux hb HN.out HD.out;have SL:=hid k5;have V1:=hid k6;have V2:=hid k7;clear k5 k6 k7
 have hz20:(s.size:Int)≤20:=by omega
 have hz0:(0:Int)<(s.size:Int):=by omega
 have hz1:(1:Int)≤(s.size:Int):=by omega
 clear hsz;clear hs hb
 have HNL:(n:Int)≤4000000000000000000:=by have:=HN.out;omega
 go_enter Tryz.func116,Tryz.ntmps116
 go_wp2_with fail
 rw[HTE.out];clear HTE;refine(SL.out _).mono ?_;rintro e w1 ⟨rfl,rfl⟩
 go_wp2_with fail
 refine(V1.out _).mono ?_;rintro e w1 ⟨rfl,rfl⟩
 go_wp2_with fail
 refine(V2.out _).mono ?_;rintro e w1 ⟨rfl,rfl⟩
 go_wp2
 go_ret3;exact⟨rfl,rfl⟩
def qq (q:Rat):Prop:=q.num.natAbs<1000000000∧q.den<1000000000
theorem Qe (q:Rat) (w:World) (h:qq q):
  Calls Tryz.prog 116 #[.string ⟨(jg q).toArray⟩] w (fun e w'=>e = .returned (.tuple #[.int .i64 q.num,.int .i64 (q.den:Int),.bool true])∧w=w'):=by
 obtain⟨h1,h2⟩:=h;by_cases hn:q.num<0
 ·have e:sg true q.num.natAbs=q.num:=by unfold sg;rw[if_pos rfl];omega
  by_cases hd:q.den=1
  ·have h:=BL ⟨(jg q).toArray⟩ q.num.natAbs w (by unfold jg;rw[if_pos hn,if_pos hd];simp) h1
   unfold Ja at h;rw[e] at h;rw[hd];exact h
  ·have h:=BK ⟨(jg q).toArray⟩ q.num.natAbs q.den w (by unfold jg;rw[if_pos hn,if_neg hd];simp) h1 h2
   unfold Ja at h;rw[e] at h;exact h
 ·have e:sg false q.num.natAbs=q.num:=by unfold sg;rw[if_neg (by decide)];omega
  by_cases hd:q.den=1
  ·have h:=BO ⟨(jg q).toArray⟩ q.num.natAbs w (by unfold jg;rw[if_neg hn,if_pos hd];simp) h1
   unfold Ja at h;rw[e] at h;rw[hd];exact h
  ·have h:=BM ⟨(jg q).toArray⟩ q.num.natAbs q.den w (by unfold jg;rw[if_neg hn,if_neg hd];simp) h1 h2
   unfold Ja at h;rw[e] at h;exact h
theorem FJ (q:Rat):xN (jg q)=(if q.num<0 then [45] else [])++decDigits q.num.natAbs∧yM (jg q)=(if q.den=1 then [49] else decDigits q.den):=by
 have hd:j3 (decDigits q.num.natAbs):=qZ _
 have hs:jk (jg q)=((if q.num<0 then [45] else [])++decDigits q.num.natAbs:List UInt8).length:=by
  unfold jg;by_cases h1:q.num<0
  ·rw[if_pos h1]
   show jk (45::(decDigits q.num.natAbs++_))=_
   have e:∀r:List UInt8,jk (45::r)=jk r+1:=fun r=>by unfold jk;rw[List.findIdx_cons];simp
   rw[e];by_cases h2:q.den=1
   ·rw[if_pos h2,List.append_nil,Qk hd];simp
   ·rw[if_neg h2,Xz hd];simp
  ·rw[if_neg h1]
   simp only[List.nil_append];by_cases h2:q.den=1
   ·rw[if_pos h2,List.append_nil,Qk hd]
   ·rw[if_neg h2,Xz hd]
 unfold xN yM;rw[hs];constructor
 ·unfold jg;rw[List.take_left'];rfl
 ·by_cases h2:q.den=1
  ·rw[if_pos h2,if_pos];unfold jg;rw[if_pos h2,List.append_nil]
  ·rw[if_neg h2,if_neg]
   ·unfold jg
    rw[if_neg h2,List.drop_append];simp
   ·unfold jg;rw[if_neg h2];simp
theorem ED (n:Nat) (neg:Prop) [Decidable neg]:(xC ((if neg then [45] else [])++decDigits n)).length=(decDigits n).length:=by
 have hd:j3 (decDigits n):=qZ _;by_cases h1:neg
 ·rw[if_pos h1]
  have:qm ([45]++decDigits n) = -1:=by
   unfold qm;rw[if_neg (by simp),if_pos (by simp)]
  unfold xC;rw[this,if_pos (by decide)]
  simp
 ·rw[if_neg h1,List.nil_append]
  unfold xC
  have:¬qm (decDigits n)<0:=by
   unfold qm;split
   ·omega
   ·rw[if_neg];omega
    intro hc;have hm:=hd 45 (List.mem_of_getElem? hc);revert hm;decide
  rw[if_neg this]
theorem Du (q:Rat):xl (jg q)=if 600<(decDigits q.num.natAbs).length∨600<(decDigits q.den).length then 4 else 0:=by
 obtain⟨h1,h2⟩:=FJ q;unfold xl;rw[h1,ED,h2]
 congr 1
 by_cases h:q.den=1
 ·rw[if_pos h,h,decDigits_one (by decide:(1:Nat)<10)];rfl
 ·rw[if_neg h]
theorem Wh (bad:Int) (l:List UInt8) (w:World) (hb:bad≠0):
  Calls Tryz.prog 24 #[.string ⟨#[]⟩,.int .i64 bad,.int .i64 bad,.string ⟨l.toArray⟩] w fun e w'=>e = .returned (.bool true)∧w=w':=by
 have h1:(bad==0)=false:=by simpa using hb
 have h2:(bad != 0)=true:=by simpa using hb
 obtain⟨s,hs⟩:∃s:ByteArray,s=⟨l.toArray⟩:=⟨_,rfl⟩
 rw[←hs];clear hs hb;go_enter Tryz.func24,Tryz.ntmps24
 go_wp2
 go_ret;exact⟨by simp,rfl⟩
theorem Az (l:List UInt8) (w:World) (hl:l.length≤4000000000000000000) (hL:xl l=0):
  Calls Tryz.prog 24 #[.string ⟨l.toArray⟩,.int .i64 0,.int .i64 0,.string ⟨l.toArray⟩] w fun e w'=>e = .returned (.bool true)∧w=w':=by
 have LG:=hid (W9 l w hl);rw[hL] at LG
 obtain⟨s,hs⟩:∃s:ByteArray,s=⟨l.toArray⟩:=⟨_,rfl⟩
 rw[←hs] at LG ⊢;clear hs hL hl;go_enter Tryz.func24,Tryz.ntmps24
 go_wp2_with fail
 refine LG.out.mono ?_;rintro e w1 ⟨rfl,rfl⟩
 go_wp2
 go_ret;exact⟨by simp,rfl⟩
theorem Ay (l:List UInt8) (w:World) (hl:l.length≤4000000000000000000) (hL:xl l=4):
  Calls Tryz.prog 24 #[.string ⟨#[]⟩,.int .i64 4,.int .i64 0,.string ⟨l.toArray⟩] w fun e w'=>e = .returned (.bool true)∧w=w':=by
 have LG:=hid (W9 l w hl);rw[hL] at LG
 obtain⟨s,hs⟩:∃s:ByteArray,s=⟨l.toArray⟩:=⟨_,rfl⟩
 rw[←hs] at LG ⊢;clear hs hL hl;go_enter Tryz.func24,Tryz.ntmps24
 go_wp2_with fail
 refine LG.out.mono ?_;rintro e w1 ⟨rfl,rfl⟩
 go_wp2
 go_ret;exact⟨by simp,rfl⟩
theorem Zm {a b:Int} (ha:a.natAbs<1000000000) (hb:b.natAbs<1000000000): -1000000000000000000≤a*b∧a*b≤1000000000000000000:=by
 have h:(a*b).natAbs≤1000000000*1000000000:=by
  rw[Int.natAbs_mul];exact Nat.mul_le_mul (Nat.le_of_lt ha) (Nat.le_of_lt hb)
 omega
theorem V9 {a b:Nat} (ha:a<1000000000) (hb:b<1000000000):a*b≤1000000000000000000:=
 Nat.le_trans (Nat.mul_le_mul (Nat.le_of_lt ha) (Nat.le_of_lt hb)) (by decide)
def Xp (n:Int) (d:Int) (w:World) (e:Ending) (w':World):Prop:=e = .returned (.tuple #[.int .i64 n,.int .i64 d,.bool true])∧w=w'
theorem MM (s t:ByteArray) (l:List UInt8) (n d m e X1 X2 X3:Int) (w:World) (hs:Hid (∀w,Calls Tryz.prog 116 #[.string s] w (Xp n d w))) (ht:Hid (∀w,Calls Tryz.prog 116 #[.string t] w (Xp m e w)))
  (h1:wrap64 (n*e)=X1) (h2:wrap64 (m*d)=X2) (h3:wrap64 (d*e)=X3) (b1: -1000000000000000000≤X1∧X1≤1000000000000000000) (b2: -1000000000000000000≤X2∧X2≤1000000000000000000)
  (hO:Hid (∀w,Calls Tryz.prog 35 #[.int .i64 (X1+X2),.int .i64 X3] w (kT l w))):
  Calls Tryz.prog 26 #[.string s,.string t] w (kT l w):=by
 go_enter Tryz.func26,Tryz.ntmps26
 go_wp2_with fail
 refine(hs.out _).mono ?_;rintro e1 w1 ⟨rfl,rfl⟩
 go_wp2_with fail
 refine(ht.out _).mono ?_;rintro e1 w1 ⟨rfl,rfl⟩
 go_wp2_with fail
 refine(hO.out _).mono ?_;rintro e1 w1 ⟨rfl,hB⟩
 go_wp2
 go_ret;exact⟨rfl,hB⟩
theorem Ea (s t:ByteArray) (l:List UInt8) (n d m e X1 X3:Int) (w:World) (hs:Hid (∀w,Calls Tryz.prog 116 #[.string s] w (Xp n d w))) (ht:Hid (∀w,Calls Tryz.prog 116 #[.string t] w (Xp m e w)))
  (h1:wrap64 (n*m)=X1) (h3:wrap64 (d*e)=X3)
  (hO:Hid (∀w,Calls Tryz.prog 35 #[.int .i64 X1,.int .i64 X3] w (kT l w))):
  Calls Tryz.prog 28 #[.string s,.string t] w (kT l w):=by
 go_enter Tryz.func28,Tryz.ntmps28
 go_wp2_with fail
 refine(hs.out _).mono ?_;rintro e1 w1 ⟨rfl,rfl⟩
 go_wp2_with fail
 refine(ht.out _).mono ?_;rintro e1 w1 ⟨rfl,rfl⟩
 go_wp2_with fail
 refine(hO.out _).mono ?_;rintro e1 w1 ⟨rfl,hB⟩
 go_wp2
 go_ret;exact⟨rfl,hB⟩
theorem MK (p q:Rat) (w:World) (hp:qq p) (hq:qq q):
  Calls Tryz.prog 26 #[.string ⟨(jg p).toArray⟩,.string ⟨(jg q).toArray⟩] w (kT (jg (p+q)) w):=by
 have e1:=Zm (a:=p.num) (b:=(q.den:Int)) hp.1 hq.2;have e2:=Zm (a:=q.num) (b:=(p.den:Int)) hq.1 hp.2;have e3:=V9 hp.2 hq.2;have hdp:=Nat.mul_pos p.den_pos q.den_pos
 refine MM _ _ _ p.num p.den q.num q.den (p.num*q.den) (q.num*p.den) ((p.den*q.den:Nat):Int) w (hid fun w=>Qe p w hp) (hid fun w=>Qe q w hq)
  (IntWalk.wrap64_in _ (by omega)) (IntWalk.wrap64_in _ (by omega)) (by rw[←Int.natCast_mul];exact IntWalk.wrap64_in _ (by omega)) e1 e2 (hid fun w=> ?_)
 have h:=Ua (p.num*q.den+q.num*p.den) (p.den*q.den) w (by omega) hdp (by omega);rw[←Rat.add_def'] at h;exact h
theorem M9 (p q:Rat) (w:World) (hp:qq p) (hq:qq q):
  Calls Tryz.prog 28 #[.string ⟨(jg p).toArray⟩,.string ⟨(jg q).toArray⟩] w (kT (jg (p*q)) w):=by
 have e1:=Zm (a:=p.num) (b:=q.num) hp.1 hq.1;have e3:=V9 hp.2 hq.2;have hdp:=Nat.mul_pos p.den_pos q.den_pos
 refine Ea _ _ _ p.num p.den q.num q.den (p.num*q.num) ((p.den*q.den:Nat):Int) w (hid fun w=>Qe p w hp) (hid fun w=>Qe q w hq)
  (IntWalk.wrap64_in _ (by omega)) (by rw[←Int.natCast_mul];exact IntWalk.wrap64_in _ (by omega)) (hid fun w=> ?_)
 have h:=Ua (p.num*q.num) (p.den*q.den) w (by omega) hdp (by omega);rw[←Rat.mul_def'] at h;exact h
