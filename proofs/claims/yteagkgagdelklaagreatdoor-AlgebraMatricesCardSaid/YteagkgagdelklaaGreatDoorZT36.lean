/- Contract: the greatest common divisor of long numbers. -/
import Derived.Test.YteagkgagdelklaaGreatDoorZT34
import Derived.Test.YteagkgagdelklaaGreatDoorZT32
set_option maxRecDepth 100000
set_option maxHeartbeats 8000000
namespace Go.Proofs.YteagkgagdelklaaGreatDoor
open Go.RowKit Go.Lib
def ST (a b:Nat) (w:World) (e:Ending) (w':World):Prop:=∃(g l:Value) (X Y:Nat),e = .returned (.tuple #[g,l])∧Nt w' g X∧Nt w' l Y∧Below w.heap.size w w'∧Y<X∧X≤b∧Nat.gcd X Y=Nat.gcd a b
theorem Vk (v u:Value) (a b h0 h1:Nat) (s:Bool) (hk hn up vp uk vk un vn:Nat) (x y z:Int) (w:World) (hv:Nt w v a) (hu:Nt w u b) (ha:kr a) (hb:kr b) (hL:Lh a b h0 h1 s hk hn up vp uk vk un vn x y z) (hvp:vp≠0) (h1':up<WB) (h2:vp<WB) (h3:uk<WB) (h4:vk<WB):
  Calls Tryz.prog 129 #[.agg #[.int .u64 up,.int .u64 vp,.int .u64 uk,.int .u64 vk,.bool s],v,u] w (ST a b w):=by
 obtain⟨ex,y0,yx,xb,hg⟩:=hL.ex hvp;have ey:=hL.ey
 have main:∀X Y:Nat,(X:Int)=x→(Y:Int)=y→Y<X∧X≤b∧Nat.gcd X Y=Nat.gcd a b:=by
  intro X Y e1 e2;refine⟨by omega,by omega,?_⟩;rw[←hg,←e1,←e2];rfl
 cases s with
 | true=>
  have g1:xg true = -1:=rfl;rw[g1] at ex ey
  have c1:vp*b≤up*a:=by
   have:((vp*b:Nat):Int)≤((up*a:Nat):Int):=by push_cast;omega
   omega
  have c2:uk*a≤vk*b:=by
   have:((uk*a:Nat):Int)≤((vk*b:Nat):Int):=by push_cast;omega
   omega
  have m1:((up*a-vp*b:Nat):Int)=x:=by rw[Int.natCast_sub c1];push_cast;omega
  have m2:((vk*b-uk*a:Nat):Int)=y:=by rw[Int.natCast_sub c2];push_cast;omega
  obtain⟨r1,r2,r3⟩:=main _ _ m1 m2
  exact(SZ v u a b up vp uk vk w hv hu ha hb h1' h2 h3 h4 c1 c2).mono fun e w' ⟨g,l,he,n1,n2,n3⟩=>⟨g,l,_,_,he,n1,n2,n3,r1,r2,r3⟩
 | false=>
  have g1:xg false=1:=rfl;rw[g1] at ex ey
  have c1:up*a≤vp*b:=by
   have:((up*a:Nat):Int)≤((vp*b:Nat):Int):=by push_cast;omega
   omega
  have c2:vk*b≤uk*a:=by
   have:((vk*b:Nat):Int)≤((uk*a:Nat):Int):=by push_cast;omega
   omega
  have m1:((vp*b-up*a:Nat):Int)=x:=by rw[Int.natCast_sub c1];push_cast;omega
  have m2:((uk*a-vk*b:Nat):Int)=y:=by rw[Int.natCast_sub c2];push_cast;omega
  obtain⟨r1,r2,r3⟩:=main _ _ m1 m2
  exact(SY v u a b up vp uk vk w hv hu ha hb h1' h2 h3 h4 c1 c2).mono fun e w' ⟨g,l,he,n1,n2,n3⟩=>⟨g,l,_,_,he,n1,n2,n3,r1,r2,r3⟩
theorem EG (l:List UInt8):l=(if hasPrefix l [45]=true then [45] else [])++trimPrefix l [45]:=by
 unfold trimPrefix hasPrefix
 cases l with
 | nil=>rfl
 | cons a r=>
  by_cases h:([45].isPrefixOf (a::r))=true
  ·rw[if_pos h,if_pos h]
   have:a=45:=by simp[List.isPrefixOf] at h;exact h.symm
   subst this;rfl
  ·rw[if_neg h,if_neg h];rfl
theorem Fy (l:List UInt8) (h:hasPrefix l [45]=false):l[0]? ≠some 45:=by
 unfold hasPrefix at h
 cases l with
 | nil=>simp
 | cons a r=>
  intro e
  have:a=45:=by simpa using e
  subst this;simp[List.isPrefixOf] at h
@[irreducible] def xW:Nat:=600
theorem Ks:xW=600:=by unfold xW;rfl
theorem Vo {x:Nat} (h:x<10^xW):jQ x:=by
 have h0:1000≤xN:=by unfold xN;decide
 have h6:=Ks;have h1:10^xW≤10^(9*xN):=Qai (by decide) (by omega);rw[QbY] at h1;exact Qac h h1
theorem EO {a:List UInt8} (h:j7 a) (hl:a.length≤600):jf a<10^xW:=Qac (xf h) (Qai (by decide) (by rw[Ks];exact hl))
theorem VH (d:List UInt8):((cut d [47]).2.2=true∧d=(cut d [47]).1++47::(cut d [47]).2.1∧(cut d [47]).1=d.take (jo d)∧(cut d [47]).2.1=d.drop (jo d+1)∧jo d<d.length)∨((cut d [47]).2.2=false∧d=(cut d [47]).1∧jo d=d.length):=by
 rw[Nm];by_cases h:jo d<d.length
 ·rw[if_pos h]
  refine .inl ⟨rfl,?_,rfl,rfl,h⟩;have h1:=UF h;obtain⟨hl,hg⟩:=List.getElem?_eq_some_iff.1 h1
  conv=>lhs;rw[←Qb2 (jo d) d,QaF hl,hg]
 ·rw[if_neg h]
  exact .inr ⟨rfl,rfl,by have:=K3 d;omega⟩
theorem Z7 {a:List UInt8} (h:jF a):decDigits (jf a)=a:=(CF a.length a rfl h).symm
theorem YD {a:List UInt8} {n:Nat} {t:List UInt8} (h:jF a) (ht:decDigits n=t) (hne:a≠t):jf a≠n:=fun e=>hne (by rw[←Z7 h,e,ht])
theorem Mh (l:List UInt8) (h:(j6 l).1=0):jh (j6 l).2=l∧(j6 l).2.num.natAbs<10^xW∧(j6 l).2.den<10^xW:=by
 have hl:=EG l;have hc:=VH (trimPrefix l [45]);unfold j6 at h ⊢;generalize hasPrefix l [45]=neg at *;generalize trimPrefix l [45]=d at *;generalize (cut d [47]).1=a at *;generalize (cut d [47]).2.1=b at *;generalize (cut d [47]).2.2=f at *;unfold KY at h ⊢;by_cases h1:¬jF a∨(neg=true∧a=[48])
 ·rw[if_pos h1] at h;cases h
 rw[if_neg h1] at h ⊢;have hA:jF a:=Decidable.not_not.1 (fun h=>h1 (.inl h))
 have hpos:neg=true→0<jf a:=fun hn=>by
  have:=YD hA (decDigits_one (by decide:(0:Nat)<10)) (fun e=>h1 (.inr ⟨hn,e⟩));omega
 have key:∀D:Nat,D≠0→Nat.gcd (jf a) D=1→jh (j9 neg (jf a) D)=(if neg=true then [45] else [])++a++(if D=1 then [] else 47::decDigits D)∧(j9 neg (jf a) D).num.natAbs=jf a∧(j9 neg (jf a) D).den=D:=by
  intro D hD hg;rw[zI]
  have hg':Nat.gcd (sg neg (jf a)).natAbs D=1:=by rw[K2];exact hg
  obtain⟨e1,e2⟩:=KJ hD hg';rw[M5 hD hg',e1,e2,K2];refine⟨?_,rfl,rfl⟩;unfold xa;rw[Eb,Z7 hA]
  cases neg with
  | true=>rw[QaK (hpos rfl)];simp
  | false=>simp
 by_cases hf:f=true
 ·rw[if_pos hf] at h ⊢
  by_cases h2:¬jF b∨b=[48]∨b=[49]
  ·rw[if_pos h2] at h;cases h
  rw[if_neg h2] at h ⊢;by_cases h3:600<a.length∨600<b.length
  ·rw[if_pos h3] at h;cases h
  rw[if_neg h3] at h ⊢;by_cases h4:Nat.gcd (jf a) (jf b)=1
  ·rw[if_pos h4] at h ⊢
   have hB:jF b:=Decidable.not_not.1 (fun h=>h2 (.inl h));have b0:jf b≠0:=YD hB (decDigits_one (by decide:(0:Nat)<10)) (fun e=>h2 (.inr (.inl e)));have b1:jf b≠1:=YD hB (decDigits_one (by decide:(1:Nat)<10)) (fun e=>h2 (.inr (.inr e)));obtain⟨k1,k2,k3⟩:=key _ b0 h4
   show jh (j9 neg (jf a) (jf b))=l∧(j9 neg (jf a) (jf b)).num.natAbs<10^xW∧(j9 neg (jf a) (jf b)).den<10^xW
   rw[k1,k2,k3,if_neg b1,Z7 hB];have la:=xf hA.1;have lb:=xf hB.1;have pa:10^a.length≤10^xW:=Qai (by decide) (by rw[Ks];omega);have pb:10^b.length≤10^xW:=Qai (by decide) (by rw[Ks];omega);refine⟨?_,Qac la pa,Qac lb pb⟩
   rcases hc with ⟨_,hd,_⟩ | ⟨hf2,_⟩
   ·rw[hl,hd,QaV]
   ·rw[hf] at hf2;cases hf2
  ·rw[if_neg h4] at h;cases h
 ·rw[if_neg hf] at h ⊢
  by_cases h3:600<a.length
  ·rw[if_pos h3] at h;cases h
  rw[if_neg h3] at h ⊢;obtain⟨k1,k2,k3⟩:=key 1 (by decide) (QbX _)
  show jh (j9 neg (jf a) 1)=l∧(j9 neg (jf a) 1).num.natAbs<10^xW∧(j9 neg (jf a) 1).den<10^xW
  rw[k1,k2,k3,if_pos rfl,Qbg];have la:=xf hA.1;have pa:10^a.length≤10^xW:=Qai (by decide) (by rw[Ks];omega);refine⟨?_,Qac la pa,Nat.one_lt_pow (by rw[Ks];decide) (by decide)⟩
  rcases hc with ⟨hf2,_⟩ | ⟨_,hd,_⟩
  ·exact absurd hf2 hf
  ·rw[hl,hd]
theorem LG (l:List UInt8) (w:World) (hb:l.length≤9000000):Calls Tryz.prog 75 #[.string ⟨l.toArray⟩] w (yH (j6 l).1 w):=by
 have hle:=EG l;have hc:=VH (trimPrefix l [45]);have hdl:(trimPrefix l [45]).length≤l.length:=UN l;have hpre:=Fy l;unfold j6;generalize hasPrefix l [45]=neg at *;generalize trimPrefix l [45]=d at *;generalize hss:(⟨l.toArray⟩:ByteArray)=s
 have hs:s.data.toList=l:=by rw[←hss]
 have hsz:=kG hs;have hk:=K3 d
 obtain⟨t,ht,htl⟩:∃t:ByteArray,t.data.toList=d∧(neg=true→s.extract 1 s.size=t)∧(neg=false→s=t):=by
  cases neg with
  | true=>
   have hs':s.data.toList=45::d:=by rw[hs,hle];rfl
   exact⟨s.extract 1 s.size,by rw[xK hs',kG hs',Qad (Nat.le_refl _)];rfl,fun _=>rfl,(fun h=>by cases h)⟩
  | false=>exact⟨s,by rw[hs,hle];rfl,(fun h=>by cases h),fun _=>rfl⟩
 have htz:=kG ht
 have ea:(t.extract 0 (jo d)).data.toList=d.take (jo d):=by rw[xK ht];simp
 have eb:(t.extract (jo d+1) t.size).data.toList=d.drop (jo d+1):=by rw[xK ht,htz,Qad (Nat.le_refl _)]
 have hA:(cut d [47]).1=d.take (jo d):=by
  rcases hc with ⟨_,_,h,_⟩ | ⟨_,h,h2⟩
  ·exact h
  ·rw[h2,Qad (Nat.le_refl _)];exact h.symm
 have SL:∀W,Calls Tryz.prog 118 #[.string t] W (xX (jo d) W):=fun W=>by have h:=Jh t W (by omega);rw[ht] at h;exact h
 have DA:∀W,Calls Tryz.prog 119 #[.string (t.extract 0 (jo d))] W (yE (decide (jF (d.take (jo d)))) W):=fun W=>by
  have h:=VO (t.extract 0 (jo d)) W (by rw[kG ea,Qak];omega);rw[ea] at h;exact h
 have H:∀dA,decide (jF (d.take (jo d)))=dA→yw s t neg (jo d) dA:=fun dA hdA=>by
  refine⟨by omega,by omega,by omega,fun hn=> ?_,fun hn=>⟨htl.2 hn,fun h0=> ?_⟩,SL,by rw[←hdA];exact DA,fun h=> ?_⟩
  ·subst hn
   have hs':s.data.toList=45::d:=by rw[hs,hle];rfl
   have h0:0<s.size:=by rw[kG hs'];simp
   exact⟨h0,by rw[Qt hs' h0];rfl,htl.1 rfl⟩
  ·have hge:=xI s 0 h0
   rw[hs] at hge;exact Y0 (n:=45) (by decide) (fun e=>hpre hn (by rw[hge,e];rfl))
  ·rw[←hdA] at h
   have hN:=QaL h
   have:d.take (jo d)≠[]:=by rcases hN.2 with h | h;rw[h];simp;exact h.1
   have h1:0<(d.take (jo d)).length:=List.length_pos_iff.2 this;rw[Qak] at h1;omega
 unfold KY;rw[hA];by_cases hN:jF (d.take (jo d))
 ·have HH:=H true (QaK hN)
  by_cases hz:neg=true∧d.take (jo d)=[48]
  ·rw[if_pos (.inr hz)]
   exact TT s t neg _ w HH hz.1 (by rw[ByteArray.toList_eq,ea,hz.2];rfl)
  ·rw[if_neg (by rintro (h | h);exact h hN;exact hz h)]
   have NZ:neg=true→((t.extract 0 (jo d)).toList==[48])=false:=fun hn=>by
    rw[ByteArray.toList_eq,ea]
    have:d.take (jo d)≠[48]:=fun e=>hz ⟨hn,e⟩
    simpa using this
   rcases hc with ⟨hf,hd,_,hB,hlt⟩ | ⟨hf,hd,hk2⟩
   ·rw[if_pos hf,hB]
    have hltI:((jo d:Nat):Int)<(t.size:Int):=by omega
    have DB:∀W,Calls Tryz.prog 119 #[.string (t.extract (jo d+1) t.size)] W (yE (decide (jF (d.drop (jo d+1)))) W):=fun W=>by
     have h:=VO (t.extract (jo d+1) t.size) W (by rw[kG eb,Qa3];omega);rw[eb] at h;exact h
    by_cases hNB:jF (d.drop (jo d+1))
    ·have hdB:=QaK hNB
     by_cases h48:d.drop (jo d+1)=[48]
     ·rw[if_pos (.inr (.inl h48))]
      exact TJ s t neg _ w HH NZ hltI _ DB hdB (by rw[ByteArray.toList_eq,eb,h48];rfl)
     ·have h48':((t.extract (jo d+1) t.size).toList==[48])=false:=by rw[ByteArray.toList_eq,eb];simpa using h48
      by_cases h49:d.drop (jo d+1)=[49]
      ·rw[if_pos (.inr (.inr h49))]
       exact TK s t neg _ w HH NZ hltI _ DB hdB h48' (by rw[ByteArray.toList_eq,eb,h49];rfl)
      ·have h49':((t.extract (jo d+1) t.size).toList==[49])=false:=by rw[ByteArray.toList_eq,eb];simpa using h49
       rw[if_neg (by rintro (h | h | h);exact h hNB;exact h48 h;exact h49 h)]
       have la:(d.take (jo d)).length=jo d:=by rw[Qak];omega
       have lb:(d.drop (jo d+1)).length=d.length-(jo d+1):=Qa3;by_cases hla:600<jo d
       ·rw[if_pos (.inl (by omega))]
        exact TO s t neg _ w HH NZ hltI _ DB hdB h48' h49' (by omega)
       ·by_cases hlb:600<(d.drop (jo d+1)).length
        ·rw[if_pos (.inr hlb)]
         exact TS s t neg _ w HH NZ hltI _ DB hdB h48' h49' (by omega) (by omega)
        ·rw[if_neg (by omega)]
         have b0:0<jf (d.drop (jo d+1)):=by
          have:=YD hNB (decDigits_one (by decide:(0:Nat)<10)) h48;omega
         have PT:Hid (∀W,Calls Tryz.prog 120 #[.string t] W (ya ((jf (d.take (jo d)):Nat):Int) ((jf (d.drop (jo d+1)):Nat):Int) W)):=hid (fun W=>by
          have na:0<(d.take (jo d)).length:=List.length_pos_iff.2 (by rcases hN.2 with h | h;rw[h];simp;exact h.1);have nb:0<(d.drop (jo d+1)).length:=List.length_pos_iff.2 (by rcases hNB.2 with h | h;rw[h];simp;exact h.1)
          have h:=GU false (d.take (jo d)) (d.drop (jo d+1)) t W (by rw[ht];conv=>lhs;rw[hd,hA,hB]
                                                                     rfl) hN.1 hNB.1 na nb (by omega) (by omega)
          have e:sg false (jf (d.take (jo d)))=((jf (d.take (jo d)):Nat):Int):=by unfold sg;rw[if_neg (by decide)]
          rw[e] at h;exact h)
         have B1:=hid (Vo (EO hN.1 (by omega)));have B2:=hid (Vo (EO hNB.1 (by omega)));by_cases hg:Nat.gcd (jf (d.take (jo d))) (jf (d.drop (jo d+1)))=1
         ·rw[if_pos hg]
          exact TN s t neg _ w HH NZ hltI _ DB hdB h48' h49' (by omega) (by omega) _ _ PT B1 B2 (hid b0) (hid hg)
         ·rw[if_neg hg]
          exact TL s t neg _ w HH NZ hltI _ DB hdB h48' h49' (by omega) (by omega) _ _ PT B1 B2 (hid b0) (hid hg)
    ·rw[if_pos (.inl hNB)]
     exact TH s t neg _ w HH NZ hltI _ DB (Qat hNB)
   ·rw[if_neg (by rw[hf];decide)]
    have la:(d.take (jo d)).length=d.length:=by rw[Qak];omega
    by_cases hla:600<d.length
    ·rw[if_pos (by omega)]
     exact TU s t neg _ w HH NZ (by omega) (by omega)
    ·rw[if_neg (by omega)]
     exact TV s t neg _ w HH NZ (by omega) (by omega)
 ·rw[if_pos (.inl hN)]
  exact TG s t neg _ w (H false (Qat hN))
theorem PC (l:jl):((⟨l.toArray⟩:ByteArray).size)=l.length:=by simp[ByteArray.size]
def zr (n:Nat) (L:List jl):Prop:=L.length≤n ∧ ∀l∈L,l.length≤n
instance (n:Nat) (L:List jl):Decidable (zr n L):=by unfold zr;infer_instance
def zt (n:Nat) (M:List (List jl)):Prop:=M.length≤n ∧ ∀r∈M,zr n r
instance (n:Nat) (M:List (List jl)):Decidable (zt n M):=by unfold zt;infer_instance
theorem Ez {α:Type} {P:α→Prop} {L:List α} {k:Nat} {x:α} (hx:L[k]? =some x) (h:∀l∈L.take k,P l) (hp:P x):∀l∈L.take (k+1),P l:=by
 intro l hl;rw[Qa5,hx] at hl;rcases List.mem_append.1 hl with h1 | h1
 ·exact h l h1
 ·simp at h1;rw[h1];exact hp
theorem LV (v:Value) (L:List jl) (n:Nat) (w:World) (hv:jD w v (jN L)) (hn:n≤1000):
  Calls Tryz.prog 33 #[v,.int .i64 n] w fun e w'=>e = .returned (.bool (decide (zr n L)))∧Below w.heap.size w w':=by
 obtain⟨A,c,rfl,hc1,hc2⟩:=hv.form;simp only[kT] at hc1 hc2 hv ⊢
 obtain⟨r,hr⟩:∃r,decide (zr n L)=r:=⟨_,rfl⟩
 rw[hr];by_cases hl:n<L.length
 ·have hin:(n:Int)<(L.length:Int):=by omega
  have HF:Hid (r=false):=hid (by rw[←hr];simp only[decide_eq_false_iff_not];intro h;have:=h.1;omega);clear hr hv hl;go_enter Tryz.func33,Tryz.ntmps33
  go_wp2
  go_ret;exact⟨by rw[HF.out];rfl,Below.refl _ _⟩
 ·have hin0:¬(n:Int)<(L.length:Int):=by omega
  have HYes:Hid ((∀l∈L,l.length≤n)→r=true):=hid (fun h=>by rw[←hr];exact QaK ⟨by omega,h⟩);have HNo:Hid (∀l∈L,¬l.length≤n→r=false):=hid (fun l hm h=>by rw[←hr];exact Qat (fun k=>h (k.2 l hm)));clear hr hl;go_enter Tryz.func33,Tryz.ntmps33
  go_wp2_with fail
  go_loopg [5] L.length (fun g i wr=>∃(k:Nat),k+g=L.length∧i = .int .i64 k∧Hid (∀l∈L.take k,l.length≤n)∧Below w.heap.size w wr)
  case atStart=>exact⟨0,by omega,rfl,hid (by simp),Below.refl _ _⟩
  case round=>
   obtain⟨k,hk,rfl,hD,hB⟩:=hrel
   cases gk with
   | zero=>
    have hin:¬((k:Int)<(L.length:Int)):=by omega
    have HT:Hid (r=true):=hid (HYes.out (by have:=hD.out;rwa [Qad (by omega)] at this));clear hk
    go_wp2
    go_ret;exact⟨by rw[HT.out];rfl,hB⟩
   | succ g=>
    have hlt:k<L.length:=by omega
    have hin:(k:Int)<(L.length:Int):=by omega
    obtain⟨b1,off1,rfl,hbb1,hcell1⟩:=hv.at_ (k:=k) (by rw[kT];omega);have hck:=(hB.cell (p:=⟨b1,off1+k,none⟩) hbb1).trans ((hcell1 k (by rw[kT];omega)).trans (JM L k hlt))
    have hx:L[k]? =some (L[k]?.getD []):=by rw[Qaa hlt];rfl
    have HN:=hid (fun h=>HNo.out _ (Qab hx) h);have HS:=hid (fun h=>Ez (P:=fun l=>l.length≤n) hx hD.out h);have Hk:=hid hk;clear hx hcell1 hk hD hv;generalize L[k]?.getD []=l at *;have hz:=PC l;unfold sv at hck;generalize (⟨l.toArray⟩:ByteArray)=s at *;by_cases h1:l.length≤n
    ·have hb:¬((n:Int)<(s.size:Int)):=by omega
     have HS2:=hid (HS.out h1);clear h1 hz HS HN
     go_wp2
     go_roundg g
     case rel=>exact⟨k+1,by have:=Hk.out;omega,by go_num,HS2,hB⟩
     case measure=>omega
    ·have hb:((n:Int)<(s.size:Int)):=by omega
     have HF:=hid (HN.out h1);clear h1 hz HS HN
     go_wp2
     go_ret;exact⟨by rw[HF.out];rfl,hB⟩
theorem LU (v:Value) (M:List (List jl)) (n:Nat) (w:World) (hv:jT w v M) (hn:n≤1000):
  Calls Tryz.prog 5 #[v,.int .i64 n] w fun e w'=>e = .returned (.bool (decide (zt n M)))∧Below w.heap.size w w':=by
 obtain⟨vs,hvs,hvl,hvr⟩:=hv;obtain⟨A,c,rfl,hc1,hc2⟩:=hvs.form;rw[hvl] at hvs hc1 hc2;rw[hvl];have HVR:=hid hvr
 obtain⟨r,hr⟩:∃r,decide (zt n M)=r:=⟨_,rfl⟩
 rw[hr];clear hvr;by_cases hl:n<M.length
 ·have hin:(n:Int)<(M.length:Int):=by omega
  have HF:Hid (r=false):=hid (by rw[←hr];simp only[decide_eq_false_iff_not];intro h;have:=h.1;omega);clear hr hvs hl;go_enter Tryz.func5,Tryz.ntmps5
  go_wp2
  go_ret;exact⟨by rw[HF.out];rfl,Below.refl _ _⟩
 ·have hin0:¬(n:Int)<(M.length:Int):=by omega
  have HYes:Hid ((∀l∈M,zr n l)→r=true):=hid (fun h=>by rw[←hr];exact QaK ⟨by omega,h⟩);have HNo:Hid (∀l∈M,¬zr n l→r=false):=hid (fun l hm h=>by rw[←hr];exact Qat (fun k=>h (k.2 l hm)));clear hr hl;go_enter Tryz.func5,Tryz.ntmps5
  go_wp2_with fail
  go_loopg [5] M.length (fun g i wr=>∃(k:Nat),k+g=M.length∧i = .int .i64 k∧Hid (∀l∈M.take k,zr n l)∧Below w.heap.size w wr)
  case atStart=>exact⟨0,by omega,rfl,hid (by simp),Below.refl _ _⟩
  case round=>
   obtain⟨k,hk,rfl,hD,hB⟩:=hrel
   cases gk with
   | zero=>
    have hin:¬((k:Int)<(M.length:Int)):=by omega
    have HT:Hid (r=true):=hid (HYes.out (by have:=hD.out;rwa [Qad (by omega)] at this));clear hk
    go_wp2
    go_ret;exact⟨by rw[HT.out];rfl,hB⟩
   | succ g=>
    have hlt:k<M.length:=by omega
    have hin:(k:Int)<(M.length:Int):=by omega
    have hx:M[k]? =some M[k]:=Qaa hlt;obtain⟨u1,hu1,hs1⟩:=HVR.out k _ hx;obtain⟨b1,off1,rfl,hbb1,hcell1⟩:=hvs.at_ (k:=k) (by rw[hvl];omega);have hck:=(hB.cell (p:=⟨b1,off1+k,none⟩) hbb1).trans ((hcell1 k (by rw[hvl];omega)).trans hu1);have SR:=hid (LV u1 M[k] n wr (hs1.below hB) hn);have HN:=hid (fun h=>HNo.out _ (Qab hx) h);have HS:=hid (fun h=>Ez (P:=fun l=>zr n l) hx hD.out h);have Hk:=hid hk;obtain⟨A1,c1,rfl,_,_⟩:=hs1.form;clear hx hcell1 hk hD hvs hu1 hs1;generalize M[k]=l at *;by_cases h1:zr n l
    ·have HS2:=hid (HS.out h1)
     rw[QaK h1] at SR;clear h1 HS HN
     go_wp2_with fail
     refine SR.out.mono ?_;rintro e w2 ⟨rfl,hB2⟩;have HB2:=hid (hB.trans (hB2.mono hB.size));clear SR hB2
     go_wp2
     go_roundg g
     case rel=>exact⟨k+1,by have:=Hk.out;omega,by go_num,HS2,HB2.out⟩
     case measure=>omega
    ·have HF:=hid (HN.out h1)
     rw[Qat h1] at SR;clear h1 HS HN
     go_wp2_with fail
     refine SR.out.mono ?_;rintro e w2 ⟨rfl,hB2⟩;have HB2:=hid (hB.trans (hB2.mono hB.size));clear SR hB2
     go_wp2
     go_ret;exact⟨by rw[HF.out];rfl,HB2.out⟩
theorem LD (v:Value) (L:List jl) (w:World) (hv:jD w v (jN L)) (hb:∀l∈L,l.length≤9000000):
  Calls Tryz.prog 34 #[v] w fun e w'=>e = .returned (.int .i64 (ky L))∧Below w.heap.size w w':=by
 obtain⟨A,c,rfl,hc1,hc2⟩:=hv.form;simp only[kT] at hc1 hc2 hv ⊢
 obtain⟨E,hE⟩:∃E,ky L=E:=⟨_,rfl⟩
 have HE:=hid hE;have HBL:=hid hb;rw[hE];clear hE hb;go_enter Tryz.func34,Tryz.ntmps34
 go_wp2_with fail
 go_loopg [3] L.length (fun g i wr=>∃(k:Nat),k+g=L.length∧i = .int .i64 k∧Hid (ky (L.drop k)=E)∧Below w.heap.size w wr)
 case atStart=>exact⟨0,by omega,rfl,hid (by rw[Qa0];exact HE.out),Below.refl _ _⟩
 case round=>
  obtain⟨k,hk,rfl,hD,hB⟩:=hrel
  cases gk with
  | zero=>
   have hin:¬((k:Int)<(L.length:Int)):=by omega
   have HT:Hid (E=0):=hid (by rw[←hD.out,Qa4 (by omega)];rfl);clear hk
   go_wp2
   go_ret;exact⟨by rw[HT.out];rfl,hB⟩
  | succ g=>
   have hlt:k<L.length:=by omega
   have hin:(k:Int)<(L.length:Int):=by omega
   obtain⟨b1,off1,rfl,hbb1,hcell1⟩:=hv.at_ (k:=k) (by rw[kT];omega);have hck:=(hB.cell (p:=⟨b1,off1+k,none⟩) hbb1).trans ((hcell1 k (by rw[kT];omega)).trans (JM L k hlt))
   have hx:L[k]? =some (L[k]?.getD []):=by rw[Qaa hlt];rfl
   have HD:=hid (MV k L hx);have CK:=hid (LG (L[k]?.getD []) wr (HBL.out _ (Qab hx)));have Hk:=hid hk;clear hx hcell1 hk hv;generalize L[k]?.getD []=l at *;unfold sv at hck;generalize (⟨l.toArray⟩:ByteArray)=s at *;generalize (j6 l).1=x at *;by_cases h1:x=0
   ·subst h1
    have HS:Hid (ky (L.drop (k+1))=E):=hid (by rw[←hD.out,HD.out,if_pos rfl]);clear hD HD
    go_wp2_with fail
    refine CK.out.mono ?_;rintro e w2 ⟨rfl,hB2⟩;have HB2:=hid (hB.trans (hB2.mono hB.size));clear CK hB2
    go_wp2
    go_roundg g
    case rel=>exact⟨k+1,by have:=Hk.out;omega,by go_num,HS,HB2.out⟩
    case measure=>omega
   ·have HF:Hid (E=x):=hid (by rw[←hD.out,HD.out,if_neg h1])
    have hb:(x != 0)=true:=by simpa using h1
    clear hD HD h1
    go_wp2_with fail
    refine CK.out.mono ?_;rintro e w2 ⟨rfl,hB2⟩;have HB2:=hid (hB.trans (hB2.mono hB.size));clear CK hB2
    go_wp2
    go_ret;exact⟨by rw[HF.out];rfl,HB2.out⟩
theorem LC (v:Value) (M:List (List jl)) (w:World) (hv:jT w v M) (hb:∀r∈M,∀l∈r,l.length≤9000000):
  Calls Tryz.prog 6 #[v] w fun e w'=>e = .returned (.int .i64 (jG M))∧Below w.heap.size w w':=by
 obtain⟨vs,hvs,hvl,hvr⟩:=hv;obtain⟨A,c,rfl,hc1,hc2⟩:=hvs.form;rw[hvl] at hvs hc1 hc2
 obtain⟨E,hE⟩:∃E,jG M=E:=⟨_,rfl⟩
 rw[hE,hvl];have HBL:=hid hb;clear hb;by_cases h256:256<M.length
 ·have hin:(256:Int)<(M.length:Int):=by omega
  have HF:Hid (E=5):=hid (by rw[←hE];unfold jG;rw[if_pos h256]);clear hE hvr hvs h256;go_enter Tryz.func6,Tryz.ntmps6
  go_wp2
  go_ret;exact⟨by rw[HF.out];rfl,Below.refl _ _⟩
 ·have hbig:¬((256:Int)<(M.length:Int)):=by omega
  obtain⟨n0,hn0⟩:∃n0,((M[0]?.map (·.length)).getD 0)=n0:=⟨_,rfl⟩
  have HE:Hid (xE n0 M=E):=hid (by rw[←hE,←hn0];unfold jG;rw[if_neg h256]);have HVR:=hid hvr;have HN:=hid hn0;clear hE hvr h256 hn0;go_enter Tryz.func6,Tryz.ntmps6
  go_wp2_with fail
  go_loopg [3] M.length (fun g i wr=>∃(k:Nat),k+g=M.length∧i = .int .i64 k∧Hid (xE n0 (M.drop k)=E)∧Below w.heap.size w wr)
  case atStart=>exact⟨0,by omega,rfl,hid (by rw[Qa0];exact HE.out),Below.refl _ _⟩
  case round=>
   obtain⟨k,hk,rfl,hD,hB⟩:=hrel
   cases gk with
   | zero=>
    have hin:¬((k:Int)<(M.length:Int)):=by omega
    have HT:Hid (E=0):=hid (by rw[←hD.out,Qa4 (by omega)];rfl);clear hk
    go_wp2
    go_ret;exact⟨by rw[HT.out];rfl,hB⟩
   | succ g=>
    have hlt:k<M.length:=by omega
    have hin:(k:Int)<(M.length:Int):=by omega
    have hl0:0<M.length:=by omega
    obtain⟨v1,hv1,hs1⟩:=HVR.out k _ (Qaa hlt);obtain⟨v0,hv0,hs0⟩:=HVR.out 0 _ (Qaa hl0);obtain⟨b1,off1,rfl,hbb1,hcell1⟩:=hvs.at_ (k:=k) (by rw[hvl];omega);have hck1:=(hB.cell (p:=⟨b1,off1+k,none⟩) hbb1).trans ((hcell1 k (by rw[hvl];omega)).trans hv1);have hck0:=(hB.cell (p:=⟨b1,off1+0,none⟩) hbb1).trans ((hcell1 0 (by rw[hvl];omega)).trans hv0);rw[Qbf] at hck0;obtain⟨A1,c1,rfl,ha1,ha2⟩:=hs1.form;obtain⟨A0,c0,rfl,he1,he2⟩:=hs0.form;simp only[kT] at hs1 hs0 ha1 ha2 he1 he2 hck1 hck0;have hrow:=hid (MX n0 k M (Qaa hlt))
    have HL0:M[0].length=n0:=by rw[←HN.out,Qaa hl0];rfl
    rw[HL0] at hck0 he1;have CR:=hid (fun W (hw:Below w.heap.size w W)=>LD (.slice A1 M[k].length c1) M[k] W (hs1.below hw) (HBL.out _ (Qay hlt)));have Hk:=hid hk;clear hcell1 hvs hk hv1 hv0 hs0 HL0 hs1;generalize M[k]=r at *;by_cases h1:256<r.length
    ·have hb1:(256:Int)<(r.length:Int):=by omega
     have HF:Hid (E=5):=hid (by rw[←hD.out,hrow.out,if_pos h1]);clear h1 hD hrow CR
     go_wp2
     go_ret;exact⟨by rw[HF.out];rfl,hB⟩
    ·have hb1:¬((256:Int)<(r.length:Int)):=by omega
     by_cases h2:r.length≠n0
     ·have hb2:((r.length:Int) != (n0:Int))=true:=by simp;omega
      have HF:Hid (E=2):=hid (by rw[←hD.out,hrow.out,if_neg h1,if_pos h2]);clear h1 h2 hD hrow CR
      go_wp2
      go_quiet (fail)
      have hB':=below_drewN hB nq
      go_wp2
      go_ret;exact⟨by rw[HF.out];rfl,hB'⟩
     ·have hb2:((r.length:Int) != (n0:Int))=false:=by simp;omega
      have HR:Hid (E=if ky r=0 then xE n0 (M.drop (k+1)) else ky r):=hid (by rw[←hD.out,hrow.out,if_neg h1,if_neg h2]);clear h1 h2 hD hrow
      go_wp2
      go_quiet (fail)
      have hB':=below_drewN hB nq;have hck2:=hck1;have CR2:=hid (CR.out _ hB');clear CR;generalize ky r=x at *;by_cases h3:x=0
      ·subst h3
       have HS:Hid (xE n0 (M.drop (k+1))=E):=hid (by rw[HR.out,if_pos rfl]);clear HR
       go_wp2_with fail
       refine CR2.out.mono ?_;rintro e w2 ⟨rfl,hB2⟩;have HB2:=hid (hB'.trans (hB2.mono hB'.size));clear CR2 hB2
       go_wp2
       go_roundg g
       case rel=>exact⟨k+1,by have:=Hk.out;omega,by go_num,HS,HB2.out⟩
       case measure=>omega
      ·have HF:Hid (E=x):=hid (by rw[HR.out,if_neg h3])
       have hb:(x != 0)=true:=by simpa using h3
       clear HR h3
       go_wp2_with fail
       refine CR2.out.mono ?_;rintro e w2 ⟨rfl,hB2⟩;have HB2:=hid (hB'.trans (hB2.mono hB'.size));clear CR2 hB2
       go_wp2
       go_ret;exact⟨by rw[HF.out];rfl,HB2.out⟩
def qQ:List jl→Int
 | []=>0
 | l::t=>if xF l=0 then qQ t else 4
theorem Bz {L:List jl} {k:Nat} {l:jl} (h:L[k]? =some l):qQ (L.drop k)=if xF l=0 then qQ (L.drop (k+1)) else 4:=by
 obtain⟨hk,rfl⟩:=List.getElem?_eq_some_iff.1 h;rw[QaF hk];rfl
theorem Mt (v:Value) (L:List jl) (w:World) (hv:jD w v (jN L)) (hb:∀l∈L,l.length≤4000000000000000000):
  Calls Tryz.prog 40 #[v] w fun e w'=>e = .returned (.int .i64 (qQ L))∧Below w.heap.size w w':=by
 obtain⟨A,c,rfl,hc1,hc2⟩:=hv.form;simp only[kT] at hc1 hc2 hv ⊢
 obtain⟨E,hE⟩:∃E,qQ L=E:=⟨_,rfl⟩
 have HE:=hid hE;have HBL:=hid hb;rw[hE];clear hE hb;go_enter Tryz.func40,Tryz.ntmps40
 go_wp2_with fail
 go_loopg [3] L.length (fun g i wr=>∃(k:Nat),k+g=L.length∧i = .int .i64 k∧Hid (qQ (L.drop k)=E)∧Below w.heap.size w wr)
 case atStart=>exact⟨0,by omega,rfl,hid (by rw[Qa0];exact HE.out),Below.refl _ _⟩
 case round=>
  obtain⟨k,hk,rfl,hD,hB⟩:=hrel
  cases gk with
  | zero=>
   have hin:¬((k:Int)<(L.length:Int)):=by omega
   have HT:Hid (E=0):=hid (by rw[←hD.out,Qa4 (by omega)];rfl);clear hk
   go_wp2
   go_ret;exact⟨by rw[HT.out];rfl,hB⟩
  | succ g=>
   have hlt:k<L.length:=by omega
   have hin:(k:Int)<(L.length:Int):=by omega
   obtain⟨b1,off1,rfl,hbb1,hcell1⟩:=hv.at_ (k:=k) (by rw[kT];omega);have hck:=(hB.cell (p:=⟨b1,off1+k,none⟩) hbb1).trans ((hcell1 k (by rw[kT];omega)).trans (JM L k hlt))
   have hx:L[k]? =some (L[k]?.getD []):=by rw[Qaa hlt];rfl
   have HD:=hid (Bz hx);have CK:=hid (LN (L[k]?.getD []) wr (HBL.out _ (Qab hx)));have Hk:=hid hk;clear hx hcell1 hk hv;generalize L[k]?.getD []=l at *;unfold sv at hck;generalize (⟨l.toArray⟩:ByteArray)=s at *;generalize xF l=x at *;by_cases h1:x=0
   ·subst h1
    have HS:Hid (qQ (L.drop (k+1))=E):=hid (by rw[←hD.out,HD.out,if_pos rfl]);clear hD HD
    go_wp2_with fail
    refine CK.out.mono ?_;rintro e w2 ⟨rfl,rfl⟩
    go_wp2
    go_roundg g
    case rel=>exact⟨k+1,by have:=Hk.out;omega,by go_num,HS,hB⟩
    case measure=>omega
   ·have HF:Hid (E=4):=hid (by rw[←hD.out,HD.out,if_neg h1])
    have hb:(x != 0)=true:=by simpa using h1
    clear hD HD h1
    go_wp2_with fail
    refine CK.out.mono ?_;rintro e w2 ⟨rfl,rfl⟩
    go_wp2
    go_ret;exact⟨by rw[HF.out];rfl,hB⟩
theorem LW (v:Value) (M:List (List jl)) (w:World) (hv:jT w v M):
  Calls Tryz.prog 15 #[v] w fun e w'=>e = .returned (.int .i64 ((M[0]?.map (·.length)).getD 0:Nat))∧w=w':=by
 obtain⟨vs,hvs,hvl,hvr⟩:=hv;obtain⟨A,c,rfl,hc1,hc2⟩:=hvs.form;rw[hvl] at hvs hc1 hc2 ⊢;by_cases h0:M.length=0
 ·have hM:M=[]:=List.length_eq_zero_iff.1 h0
  subst hM;clear hvs hvr hvl;go_enter Tryz.func15,Tryz.ntmps15
  go_wp2
  go_ret;exact⟨rfl,rfl⟩
 ·have hl0:0<M.length:=by omega
  obtain⟨u,hu,hs⟩:=hvr 0 _ (Qaa hl0);obtain⟨b,off,rfl,hbb,hcell⟩:=hvs.at_ (k:=0) (by rw[hvl];omega);have hc:=(hcell 0 (by rw[hvl];omega)).trans hu;obtain⟨A1,c1,rfl,_,_⟩:=hs.form;rw[kT,Qbf] at hc;have hz:((M.length:Int)==0)=false:=beq_false_of_ne (by omega)
  have h0':(0:Int)<(M.length:Int):=by omega
  have HW:Hid ((M[0]?.map (·.length)).getD 0=M[0].length):=hid (by rw[Qaa hl0];rfl);rw[HW.out];clear hvs hvr hvl hcell hu hs HW;generalize M[0].length=n at *;go_enter Tryz.func15,Tryz.ntmps15
  go_wp2
  go_ret;exact⟨rfl,rfl⟩
def Jb (G:Nat) (w:World) (e:Ending) (w':World):Prop:=∃g,e = .returned g∧Nt w' g G∧Below w.heap.size w w'
structure Jq (x y a b gh:Nat):Prop where
 le:b≤a
 gh:a+b≤gh
 gcd:Nat.gcd a b=Nat.gcd x y
 big:kr a
theorem D6 (v u:Value) (x y:Nat) (w:World) (h:Nt w v x) (h':Nt w u y) (hle:y≤x) (hf:kr x):
  Calls Tryz.prog 81 #[v,u] w (Jb (Nat.gcd x y) w):=by
 obtain⟨A,n,c,hv,_⟩:=h.size_;obtain⟨B,m,d,hu,_⟩:=h'.size_;have ho:=Kb hle;have Hh:=hid h;clear h;have Hh':=hid h';clear h';have HI0:Hid (Jq x y x y (x+y)):=hid ⟨hle,Nat.le_refl _,rfl,hf⟩;subst hv hu;clear hle hf;go_enter Tryz.func81,Tryz.ntmps81
 go_wp2_with fail
 refine(xq _ _ _ _ _ Hh.out Hh'.out).mono ?_;rintro e w' ⟨rfl,k,rfl⟩;have HA0:=hid (Hh.out.drewN k);have HB0:=hid (Hh'.out.drewN k);have HW0:Hid (Below w.heap.size w (w.drewN k)):=hid (below_drewN (Below.refl _ _) k)
 go_wp2_with fail
 clear ho
 go_loopg [0,1] (x+y) (fun gh v0 v1 wr=>∃a b:Nat,Hid (Nt wr v0 a)∧Hid (Nt wr v1 b)∧Hid (Jq x y a b gh)∧Hid (Below w.heap.size w wr))
 case atStart=>exact⟨x,y,HA0,HB0,HI0,HW0⟩
 case round=>
  clear HA0 HB0 HI0 HW0 Hh Hh';obtain⟨a,b,hA,hB,hI,hW⟩:=hrel;by_cases hw:b<WB
  ·obtain⟨A1,n1,c1,hv1,_⟩:=hA.out.size_
   subst hv1;by_cases h0:b=0
   ·subst h0
    obtain⟨B1,d1,hu1⟩:=hB.out.zero_len;subst hu1;have HF:Hid (Jb (Nat.gcd x y) w (.returned (.slice A1 n1 c1)) wr):=hid ⟨_,rfl,by rw[←hI.out.gcd,Qcg];exact hA.out,hW.out⟩;clear hA hB hI hW hw
    go_wp2
    go_ret;exact HF.out
   ·obtain⟨b1,off1,d1,hu1,hbl,hcell⟩:=hB.out.one_word (by omega) hw
    subst hu1;by_cases h1:b=1
    ·subst h1
     have HF:Hid (Jb (Nat.gcd x y) w (.returned (.slice (some ⟨b1,off1,none⟩) 1 d1)) wr):=hid ⟨_,rfl,by rw[←hI.out.gcd,QbX];exact hB.out,hW.out⟩
     go_wp2_with fail
     refine(qf _ 1 _ hB.out).mono ?_;rintro e w1 ⟨rfl,rfl⟩;clear hA hB hI hW hw
     go_wp2
     go_ret;exact HF.out
    ·have hd:=hid (Qat h1)
     have DW:=hid (Zh _ a b wr hA.out (by omega) hw hI.out.big.one);have HG:=hid hI.out.gcd;have hgw:Hid (Nat.gcd a b<WB):=hid (Qax (Qcd a (by omega)) hw);clear hA hI hw h0 h1
     go_wp2_with fail
     refine(qf _ b _ hB.out).mono ?_;rintro e w1 ⟨rfl,rfl⟩;rw[hd.out];clear hB
     go_wp2_with fail
     refine DW.out.mono ?_;rintro e w1 ⟨q,rfl,hq,hB1⟩;have hcell1:w1.cell? ⟨b1,off1,none⟩=some (.int .u64 (b:Int)):=(hB1.cell (p:=⟨b1,off1,none⟩) hbl).trans hcell
     go_wp2_with fail
     refine(Q7 b (a%b) _).mono ?_;rintro e w2 ⟨rfl,mm,rfl⟩
     have hg:Nat.gcd b (a%b)=Nat.gcd a b:=by rw[Qbb b,←Qcp,Qbb]
     rw[hg]
     go_wp2_with fail
     refine(Ka (Nat.gcd a b) _ hgw.out).mono ?_;rintro e w3 ⟨r,rfl,hr,hB2⟩;have HF:Hid (Jb (Nat.gcd x y) w (.returned r) w3):=hid ⟨r,rfl,by rw[←HG.out];exact hr,hW.out.trans ((hB1.trans ((below_drewN (Below.refl _ w1) mm).trans hB2 |>.mono hB1.size)).mono hW.out.size)⟩;clear hr hB2 hB1 hq hcell1 hg
     go_wp2
     go_ret;exact HF.out
  ·obtain⟨A1,n1,c1,hv1,_⟩:=hA.out.size_
   obtain⟨B1,m1,d1,hu1,hm2,_⟩:=hB.out.len_ge (Nat.not_lt.1 hw);subst hv1 hu1
   have hmI:(1:Int)<(m1:Int):=by omega
   have SO:=hid (Ei _ _ a b wr hA.out hB.out hI.out.le (by have:=hI.out.le;omega) hI.out.big)
   have hb0:0<b:=by unfold WB at hw;omega
   have Hb0:=hid hb0;clear hw hb0
   go_wp2_with fail
   refine SO.out.mono ?_;rintro e w1 ⟨s,hk,hn,up,vp,uk,vk,un,vn,h0,h1,xx,yy,zz,rfl,hL,b1,b2,b3,b4,hB1⟩;have HL:=hid hL;have H4:=hid (And.intro b1 (And.intro b2 (And.intro b3 b4)));have HOb:Hid (ja (w1.alloc (.cells #[.int .u64 up,.int .u64 vp,.int .u64 uk,.int .u64 vk,.bool s] 189)) w1.heap.size 189 [.int .u64 up,.int .u64 vp,.int .u64 uk,.int .u64 vk,.bool s]):=hid (ja.make w1 _ _);have HBa:Hid (Below wr.heap.size wr (w1.alloc (.cells #[.int .u64 up,.int .u64 vp,.int .u64 uk,.int .u64 vk,.bool s] 189))):=hid (hB1.alloc hB1.size _);clear SO hL b1 b2 b3 b4 hB1;have hgk:=hI.out.gh;have hle2:=hI.out.le;have hb0:=Hb0.out
   cases gk with
   | zero=>exact absurd hgk (by omega)
   | succ gh=>
    have Hsum:Hid (b≤a∧a+b≤gh+1):=hid ⟨hle2,hgk⟩;clear hgk hle2 hb0
    go_wp2_with fail
    refine(WG up vp uk vk s _).mono ?_;rintro e w2 ⟨rfl,hB2⟩;have HBb:Hid (Below wr.heap.size wr w2):=hid (HBa.out.trans (hB2.mono HBa.out.size));have HO2:=hid (HOb.out.below hB2 HOb.out.lt);have HWb:Hid (Below w.heap.size w w2):=hid (hW.out.trans (HBb.out.mono hW.out.size));have HA2:=hid (hA.out.below HBb.out);have HB2:=hid (hB.out.below HBb.out);clear hB2 HOb HBa hA hB hW;by_cases hv0:vp=0
    ·rw[QaK hv0]
     have DB:=hid (VW _ _ a b w2 HA2.out HB2.out Hb0.out hI.out.big);clear hv0
     go_wp2_with fail
     refine DB.out.mono ?_;rintro e w3 ⟨q,r,rfl,hq,hr,hB3⟩;have HR:=hid hr;have HB3:=hid (HB2.out.below hB3);have HW3:=hid (HWb.out.trans (hB3.mono HWb.out.size))
     have HI3:Hid (Jq x y b (a%b) gh):=hid (by
      have hml:=QaI a Hb0.out;have hs:=Hsum.out
      exact⟨by omega,by omega,by rw[←hI.out.gcd,Qbb b,←Qcp,Qbb],kr.le hI.out.big hs.1⟩)
     clear hq hr hB3 DB HL H4 HO2 hI
     go_wp2
     go_roundg gh
     case rel=>exact⟨b,a%b,HB3,HR,HI3,HW3⟩
     case measure=>omega
    ·rw[Qat hv0]
     have AP:=hid (Vk _ _ a b h0 h1 s hk hn up vp uk vk un vn xx yy zz w2 HA2.out HB2.out hI.out.big (kr.le hI.out.big Hsum.out.1) HL.out hv0 H4.out.1 H4.out.2.1 H4.out.2.2.1 H4.out.2.2.2);have p0:=HO2.out.cell 0;have p1:=HO2.out.cell 1;have p2:=HO2.out.cell 2;have p3:=HO2.out.cell 3;have p4:=HO2.out.cell 4;simp only[Qbv,QbV] at p0 p1 p2 p3 p4;clear hv0
     go_wp2_with fail
     refine AP.out.mono ?_;rintro e w3 ⟨g,l,X,Y,rfl,hg,hl,hB3,hYX,hXb,hgc⟩;have HG:=hid hg;have HLl:=hid hl;have HW3:=hid (HWb.out.trans (hB3.mono HWb.out.size))
     have HI3:Hid (Jq x y X Y gh):=hid (by
      have hs:=Hsum.out
      exact⟨by omega,by omega,by rw[hgc];exact hI.out.gcd,kr.le hI.out.big (by omega)⟩)
     clear hg hl hB3 hYX hXb hgc AP HL H4 HO2 hI p0 p1 p2 p3 p4
     go_wp2
     go_roundg gh
     case rel=>exact⟨X,Y,HG,HLl,HI3,HW3⟩
     case measure=>omega
theorem D7 (v u:Value) (x y:Nat) (w:World) (h:Nt w v x) (h':Nt w u y) (hle:x<y) (hf:kr y):
  Calls Tryz.prog 81 #[v,u] w (Jb (Nat.gcd x y) w):=by
 obtain⟨A,n,c,hv,_⟩:=h.size_;obtain⟨B,m,d,hu,_⟩:=h'.size_;have ho:=hid (JI hle);have Hh:=hid h;clear h;have Hh':=hid h';clear h';have HI0:Hid (Jq x y y x (x+y)):=hid ⟨by omega,by omega,Qbb y x,hf⟩;subst hv hu;clear hle hf;go_enter Tryz.func81,Tryz.ntmps81
 go_wp2_with fail
 refine(xq _ _ _ _ _ Hh.out Hh'.out).mono ?_;rintro e w' ⟨rfl,k,rfl⟩;rw[ho.out];have HA0:=hid (Hh.out.drewN k);have HB0:=hid (Hh'.out.drewN k);have HW0:Hid (Below w.heap.size w (w.drewN k)):=hid (below_drewN (Below.refl _ _) k)
 go_wp2_with fail
 clear ho
 go_loopg [0,1] (x+y) (fun gh v0 v1 wr=>∃a b:Nat,Hid (Nt wr v0 a)∧Hid (Nt wr v1 b)∧Hid (Jq x y a b gh)∧Hid (Below w.heap.size w wr))
 case atStart=>exact⟨y,x,HB0,HA0,HI0,HW0⟩
 case round=>
  clear HA0 HB0 HI0 HW0 Hh Hh';obtain⟨a,b,hA,hB,hI,hW⟩:=hrel;by_cases hw:b<WB
  ·obtain⟨A1,n1,c1,hv1,_⟩:=hA.out.size_
   subst hv1;by_cases h0:b=0
   ·subst h0
    obtain⟨B1,d1,hu1⟩:=hB.out.zero_len;subst hu1;have HF:Hid (Jb (Nat.gcd x y) w (.returned (.slice A1 n1 c1)) wr):=hid ⟨_,rfl,by rw[←hI.out.gcd,Qcg];exact hA.out,hW.out⟩;clear hA hB hI hW hw
    go_wp2
    go_ret;exact HF.out
   ·obtain⟨b1,off1,d1,hu1,hbl,hcell⟩:=hB.out.one_word (by omega) hw
    subst hu1;by_cases h1:b=1
    ·subst h1
     have HF:Hid (Jb (Nat.gcd x y) w (.returned (.slice (some ⟨b1,off1,none⟩) 1 d1)) wr):=hid ⟨_,rfl,by rw[←hI.out.gcd,QbX];exact hB.out,hW.out⟩
     go_wp2_with fail
     refine(qf _ 1 _ hB.out).mono ?_;rintro e w1 ⟨rfl,rfl⟩;clear hA hB hI hW hw
     go_wp2
     go_ret;exact HF.out
    ·have hd:=hid (Qat h1)
     have DW:=hid (Zh _ a b wr hA.out (by omega) hw hI.out.big.one);have HG:=hid hI.out.gcd;have hgw:Hid (Nat.gcd a b<WB):=hid (Qax (Qcd a (by omega)) hw);clear hA hI hw h0 h1
     go_wp2_with fail
     refine(qf _ b _ hB.out).mono ?_;rintro e w1 ⟨rfl,rfl⟩;rw[hd.out];clear hB
     go_wp2_with fail
     refine DW.out.mono ?_;rintro e w1 ⟨q,rfl,hq,hB1⟩;have hcell1:w1.cell? ⟨b1,off1,none⟩=some (.int .u64 (b:Int)):=(hB1.cell (p:=⟨b1,off1,none⟩) hbl).trans hcell
     go_wp2_with fail
     refine(Q7 b (a%b) _).mono ?_;rintro e w2 ⟨rfl,mm,rfl⟩
     have hg:Nat.gcd b (a%b)=Nat.gcd a b:=by rw[Qbb b,←Qcp,Qbb]
     rw[hg]
     go_wp2_with fail
     refine(Ka (Nat.gcd a b) _ hgw.out).mono ?_;rintro e w3 ⟨r,rfl,hr,hB2⟩;have HF:Hid (Jb (Nat.gcd x y) w (.returned r) w3):=hid ⟨r,rfl,by rw[←HG.out];exact hr,hW.out.trans ((hB1.trans ((below_drewN (Below.refl _ w1) mm).trans hB2 |>.mono hB1.size)).mono hW.out.size)⟩;clear hr hB2 hB1 hq hcell1 hg
     go_wp2
     go_ret;exact HF.out
  ·obtain⟨A1,n1,c1,hv1,_⟩:=hA.out.size_
   obtain⟨B1,m1,d1,hu1,hm2,_⟩:=hB.out.len_ge (Nat.not_lt.1 hw);subst hv1 hu1
   have hmI:(1:Int)<(m1:Int):=by omega
   have SO:=hid (Ei _ _ a b wr hA.out hB.out hI.out.le (by have:=hI.out.le;omega) hI.out.big)
   have hb0:0<b:=by unfold WB at hw;omega
   have Hb0:=hid hb0;clear hw hb0
   go_wp2_with fail
   refine SO.out.mono ?_;rintro e w1 ⟨s,hk,hn,up,vp,uk,vk,un,vn,h0,h1,xx,yy,zz,rfl,hL,b1,b2,b3,b4,hB1⟩;have HL:=hid hL;have H4:=hid (And.intro b1 (And.intro b2 (And.intro b3 b4)));have HOb:Hid (ja (w1.alloc (.cells #[.int .u64 up,.int .u64 vp,.int .u64 uk,.int .u64 vk,.bool s] 189)) w1.heap.size 189 [.int .u64 up,.int .u64 vp,.int .u64 uk,.int .u64 vk,.bool s]):=hid (ja.make w1 _ _);have HBa:Hid (Below wr.heap.size wr (w1.alloc (.cells #[.int .u64 up,.int .u64 vp,.int .u64 uk,.int .u64 vk,.bool s] 189))):=hid (hB1.alloc hB1.size _);clear SO hL b1 b2 b3 b4 hB1;have hgk:=hI.out.gh;have hle2:=hI.out.le;have hb0:=Hb0.out
   cases gk with
   | zero=>exact absurd hgk (by omega)
   | succ gh=>
    have Hsum:Hid (b≤a∧a+b≤gh+1):=hid ⟨hle2,hgk⟩;clear hgk hle2 hb0
    go_wp2_with fail
    refine(WG up vp uk vk s _).mono ?_;rintro e w2 ⟨rfl,hB2⟩;have HBb:Hid (Below wr.heap.size wr w2):=hid (HBa.out.trans (hB2.mono HBa.out.size));have HO2:=hid (HOb.out.below hB2 HOb.out.lt);have HWb:Hid (Below w.heap.size w w2):=hid (hW.out.trans (HBb.out.mono hW.out.size));have HA2:=hid (hA.out.below HBb.out);have HB2:=hid (hB.out.below HBb.out);clear hB2 HOb HBa hA hB hW;by_cases hv0:vp=0
    ·rw[QaK hv0]
     have DB:=hid (VW _ _ a b w2 HA2.out HB2.out Hb0.out hI.out.big);clear hv0
     go_wp2_with fail
     refine DB.out.mono ?_;rintro e w3 ⟨q,r,rfl,hq,hr,hB3⟩;have HR:=hid hr;have HB3:=hid (HB2.out.below hB3);have HW3:=hid (HWb.out.trans (hB3.mono HWb.out.size))
     have HI3:Hid (Jq x y b (a%b) gh):=hid (by
      have hml:=QaI a Hb0.out;have hs:=Hsum.out
      exact⟨by omega,by omega,by rw[←hI.out.gcd,Qbb b,←Qcp,Qbb],kr.le hI.out.big hs.1⟩)
     clear hq hr hB3 DB HL H4 HO2 hI
     go_wp2
     go_roundg gh
     case rel=>exact⟨b,a%b,HB3,HR,HI3,HW3⟩
     case measure=>omega
    ·rw[Qat hv0]
     have AP:=hid (Vk _ _ a b h0 h1 s hk hn up vp uk vk un vn xx yy zz w2 HA2.out HB2.out hI.out.big (kr.le hI.out.big Hsum.out.1) HL.out hv0 H4.out.1 H4.out.2.1 H4.out.2.2.1 H4.out.2.2.2);have p0:=HO2.out.cell 0;have p1:=HO2.out.cell 1;have p2:=HO2.out.cell 2;have p3:=HO2.out.cell 3;have p4:=HO2.out.cell 4;simp only[Qbv,QbV] at p0 p1 p2 p3 p4;clear hv0
     go_wp2_with fail
     refine AP.out.mono ?_;rintro e w3 ⟨g,l,X,Y,rfl,hg,hl,hB3,hYX,hXb,hgc⟩;have HG:=hid hg;have HLl:=hid hl;have HW3:=hid (HWb.out.trans (hB3.mono HWb.out.size))
     have HI3:Hid (Jq x y X Y gh):=hid (by
      have hs:=Hsum.out
      exact⟨by omega,by omega,by rw[hgc];exact hI.out.gcd,kr.le hI.out.big (by omega)⟩)
     clear hg hl hB3 hYX hXb hgc AP HL H4 HO2 hI p0 p1 p2 p3 p4
     go_wp2
     go_roundg gh
     case rel=>exact⟨X,Y,HG,HLl,HI3,HW3⟩
     case measure=>omega
theorem D5 (v u:Value) (x y:Nat) (w:World) (h:Nt w v x) (h':Nt w u y) (hf:kr x) (hg:kr y):
  Calls Tryz.prog 81 #[v,u] w (Jb (Nat.gcd x y) w):=by
 rcases Qae x y with hl | hl
 ·exact D7 v u x y w h h' hl hg
 ·exact D6 v u x y w h h' hl hf
theorem Nz:JQ where
 div:=fun hi lo y q r w h1 h2 h3 h4 h5=>Zf hi lo y q r w h1 h2 h3 h4 h5
 long:=fun v u x y w h h' hy hyx hb=>WO v u x y w h h' hy hyx hb
 gcd:=fun v u x y w h h' _ _ hx hy=>D5 v u x y w h h' hx hy
