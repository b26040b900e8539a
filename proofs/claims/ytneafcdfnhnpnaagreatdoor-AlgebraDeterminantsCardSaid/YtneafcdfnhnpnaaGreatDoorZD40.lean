/- Contract: the greatest common divisor of long numbers. -/
import Derived.Test.YtneafcdfnhnpnaaGreatDoorZD38
import Derived.Test.YtneafcdfnhnpnaaGreatDoorZD25
import Derived.Test.YtneafcdfnhnpnaaGreatDoorZD36
set_option maxRecDepth 100000
set_option maxHeartbeats 8000000
namespace Go.Proofs.YtneafcdfnhnpnaaGreatDoor
open Go.RowKit Go.Lib
def EO (a b:Nat) (w:World) (e:Ending) (w':World):Prop:=∃(g l:Value) (X Y:Nat),e = .returned (.tuple #[g,l])∧Nt w' g X∧Nt w' l Y∧Below w.heap.size w w'∧Y<X∧X≤b∧Nat.gcd X Y=Nat.gcd a b
theorem Uq (v u:Value) (a b h0 h1:Nat) (s:Bool) (hk hn up vp uk vk un vn:Nat) (x y z:Int) (w:World) (hv:Nt w v a) (hu:Nt w u b) (ha:kq a) (hb:kq b) (hL:Lh a b h0 h1 s hk hn up vp uk vk un vn x y z) (hvp:vp≠0) (h1':up<WB) (h2:vp<WB) (h3:uk<WB) (h4:vk<WB):
  Calls Tryz.prog 224 #[.agg #[.int .u64 up,.int .u64 vp,.int .u64 uk,.int .u64 vk,.bool s],v,u] w (EO a b w):=by
 obtain⟨ex,y0,yx,xb,hg⟩:=hL.ex hvp;have ey:=hL.ey
 have main:∀X Y:Nat,(X:Int)=x→(Y:Int)=y→Y<X∧X≤b∧Nat.gcd X Y=Nat.gcd a b:=by
  intro X Y e1 e2;refine⟨by omega,by omega,?_⟩;rw[←hg,←e1,←e2];rfl
 cases s with
 | true=>
  have g1:qQ true = -1:=rfl;rw[g1] at ex ey
  have c1:vp*b≤up*a:=by
   have:((vp*b:Nat):Int)≤((up*a:Nat):Int):=by push_cast;omega
   omega
  have c2:uk*a≤vk*b:=by
   have:((uk*a:Nat):Int)≤((vk*b:Nat):Int):=by push_cast;omega
   omega
  have m1:((up*a-vp*b:Nat):Int)=x:=by rw[Int.natCast_sub c1];push_cast;omega
  have m2:((vk*b-uk*a:Nat):Int)=y:=by rw[Int.natCast_sub c2];push_cast;omega
  obtain⟨r1,r2,r3⟩:=main _ _ m1 m2
  exact(EU v u a b up vp uk vk w hv hu ha hb h1' h2 h3 h4 c1 c2).mono fun e w' ⟨g,l,he,n1,n2,n3⟩=>⟨g,l,_,_,he,n1,n2,n3,r1,r2,r3⟩
 | false=>
  have g1:qQ false=1:=rfl;rw[g1] at ex ey
  have c1:up*a≤vp*b:=by
   have:((up*a:Nat):Int)≤((vp*b:Nat):Int):=by push_cast;omega
   omega
  have c2:vk*b≤uk*a:=by
   have:((vk*b:Nat):Int)≤((uk*a:Nat):Int):=by push_cast;omega
   omega
  have m1:((vp*b-up*a:Nat):Int)=x:=by rw[Int.natCast_sub c1];push_cast;omega
  have m2:((uk*a-vk*b:Nat):Int)=y:=by rw[Int.natCast_sub c2];push_cast;omega
  obtain⟨r1,r2,r3⟩:=main _ _ m1 m2
  exact(ET v u a b up vp uk vk w hv hu ha hb h1' h2 h3 h4 c1 c2).mono fun e w' ⟨g,l,he,n1,n2,n3⟩=>⟨g,l,_,_,he,n1,n2,n3,r1,r2,r3⟩
theorem H9 (l:List UInt8):l=(if hasPrefix l [45]=true then [45] else [])++trimPrefix l [45]:=by
 unfold trimPrefix hasPrefix
 cases l with
 | nil=>rfl
 | cons a r=>
  by_cases h:([45].isPrefixOf (a::r))=true
  ·rw[if_pos h,if_pos h]
   have:a=45:=by simp[List.isPrefixOf] at h;exact h.symm
   subst this;rfl
  ·rw[if_neg h,if_neg h];rfl
theorem Bz (l:List UInt8) (h:hasPrefix l [45]=false):l[0]? ≠some 45:=by
 unfold hasPrefix at h
 cases l with
 | nil=>simp
 | cons a r=>
  intro e
  have:a=45:=by simpa using e
  subst this;simp[List.isPrefixOf] at h
@[irreducible] def xF:Nat:=600
theorem JQ:xF=600:=by unfold xF;rfl
theorem Uv {x:Nat} (h:x<10^xF):jP x:=by
 have h0:1000≤xw:=by unfold xw;decide
 have h6:=JQ;have h1:10^xF≤10^(9*xw):=Nat.pow_le_pow_right (by decide) (by omega);rw[Nat.pow_mul] at h1;exact Nat.lt_of_lt_of_le h h1
theorem Mc {a:List UInt8} (h:j3 a) (hl:a.length≤600):jf a<10^xF:=Nat.lt_of_lt_of_le (qP h) (Nat.pow_le_pow_right (by decide) (by rw[JQ];exact hl))
theorem UK (d:List UInt8):((cut d [47]).2.2=true∧d=(cut d [47]).1++47::(cut d [47]).2.1∧(cut d [47]).1=d.take (jk d)∧(cut d [47]).2.1=d.drop (jk d+1)∧jk d<d.length)∨((cut d [47]).2.2=false∧d=(cut d [47]).1∧jk d=d.length):=by
 rw[So];by_cases h:jk d<d.length
 ·rw[if_pos h]
  refine .inl ⟨rfl,?_,rfl,rfl,h⟩;have h1:=ZD h;obtain⟨hl,hg⟩:=List.getElem?_eq_some_iff.1 h1
  conv=>lhs;rw[←List.take_append_drop (jk d) d,List.drop_eq_getElem_cons hl,hg]
 ·rw[if_neg h]
  exact .inr ⟨rfl,rfl,by have:=Kj d;omega⟩
theorem Zc {a:List UInt8} (h:jD a):decDigits (jf a)=a:=(AA a.length a rfl h).symm
theorem XK {a:List UInt8} {n:Nat} {t:List UInt8} (h:jD a) (ht:decDigits n=t) (hne:a≠t):jf a≠n:=fun e=>hne (by rw[←Zc h,e,ht])
theorem WZ (l:List UInt8) (h:(jY l).1=0):jg (jY l).2=l∧(jY l).2.num.natAbs<10^xF∧(jY l).2.den<10^xF:=by
 have hl:=H9 l;have hc:=UK (trimPrefix l [45]);unfold jY at h ⊢;generalize hasPrefix l [45]=neg at *;generalize trimPrefix l [45]=d at *;generalize (cut d [47]).1=a at *;generalize (cut d [47]).2.1=b at *;generalize (cut d [47]).2.2=f at *;unfold Kf at h ⊢;by_cases h1:¬jD a∨(neg=true∧a=[48])
 ·rw[if_pos h1] at h;cases h
 rw[if_neg h1] at h ⊢;have hA:jD a:=Decidable.not_not.1 (fun h=>h1 (.inl h))
 have hpos:neg=true→0<jf a:=fun hn=>by
  have:=XK hA (decDigits_one (by decide:(0:Nat)<10)) (fun e=>h1 (.inr ⟨hn,e⟩));omega
 have key:∀D:Nat,D≠0→Nat.gcd (jf a) D=1→jg (j4 neg (jf a) D)=(if neg=true then [45] else [])++a++(if D=1 then [] else 47::decDigits D)∧(j4 neg (jf a) D).num.natAbs=jf a∧(j4 neg (jf a) D).den=D:=by
  intro D hD hg;rw[zc]
  have hg':Nat.gcd (sg neg (jf a)).natAbs D=1:=by rw[Ki];exact hg
  obtain⟨e1,e2⟩:=J7 hD hg';rw[GF hD hg',e1,e2,Ki];refine⟨?_,rfl,rfl⟩;unfold qL;rw[GL,Zc hA]
  cases neg with
  | true=>rw[decide_eq_true (hpos rfl)];simp
  | false=>simp
 by_cases hf:f=true
 ·rw[if_pos hf] at h ⊢
  by_cases h2:¬jD b∨b=[48]∨b=[49]
  ·rw[if_pos h2] at h;cases h
  rw[if_neg h2] at h ⊢;by_cases h3:600<a.length∨600<b.length
  ·rw[if_pos h3] at h;cases h
  rw[if_neg h3] at h ⊢;by_cases h4:Nat.gcd (jf a) (jf b)=1
  ·rw[if_pos h4] at h ⊢
   have hB:jD b:=Decidable.not_not.1 (fun h=>h2 (.inl h));have b0:jf b≠0:=XK hB (decDigits_one (by decide:(0:Nat)<10)) (fun e=>h2 (.inr (.inl e)));have b1:jf b≠1:=XK hB (decDigits_one (by decide:(1:Nat)<10)) (fun e=>h2 (.inr (.inr e)));obtain⟨k1,k2,k3⟩:=key _ b0 h4
   show jg (j4 neg (jf a) (jf b))=l∧(j4 neg (jf a) (jf b)).num.natAbs<10^xF∧(j4 neg (jf a) (jf b)).den<10^xF
   rw[k1,k2,k3,if_neg b1,Zc hB];have la:=qP hA.1;have lb:=qP hB.1;have pa:10^a.length≤10^xF:=Nat.pow_le_pow_right (by decide) (by rw[JQ];omega);have pb:10^b.length≤10^xF:=Nat.pow_le_pow_right (by decide) (by rw[JQ];omega);refine⟨?_,Nat.lt_of_lt_of_le la pa,Nat.lt_of_lt_of_le lb pb⟩
   rcases hc with ⟨_,hd,_⟩ | ⟨hf2,_⟩
   ·rw[hl,hd,List.append_assoc]
   ·rw[hf] at hf2;cases hf2
  ·rw[if_neg h4] at h;cases h
 ·rw[if_neg hf] at h ⊢
  by_cases h3:600<a.length
  ·rw[if_pos h3] at h;cases h
  rw[if_neg h3] at h ⊢;obtain⟨k1,k2,k3⟩:=key 1 (by decide) (Nat.gcd_one_right _)
  show jg (j4 neg (jf a) 1)=l∧(j4 neg (jf a) 1).num.natAbs<10^xF∧(j4 neg (jf a) 1).den<10^xF
  rw[k1,k2,k3,if_pos rfl,List.append_nil];have la:=qP hA.1;have pa:10^a.length≤10^xF:=Nat.pow_le_pow_right (by decide) (by rw[JQ];omega);refine⟨?_,Nat.lt_of_lt_of_le la pa,Nat.one_lt_pow (by rw[JQ];decide) (by decide)⟩
  rcases hc with ⟨hf2,_⟩ | ⟨_,hd,_⟩
  ·exact absurd hf2 hf
  ·rw[hl,hd]
theorem Cz (l:List UInt8) (w:World) (hb:l.length≤9000000):Calls Tryz.prog 17 #[.string ⟨l.toArray⟩] w (yc (jY l).1 w):=by
 have hle:=H9 l;have hc:=UK (trimPrefix l [45]);have hdl:(trimPrefix l [45]).length≤l.length:=ZM l;have hpre:=Bz l;unfold jY;generalize hasPrefix l [45]=neg at *;generalize trimPrefix l [45]=d at *;generalize hss:(⟨l.toArray⟩:ByteArray)=s
 have hs:s.data.toList=l:=by rw[←hss]
 have hsz:=kC hs;have hk:=Kj d
 obtain⟨t,ht,htl⟩:∃t:ByteArray,t.data.toList=d∧(neg=true→s.extract 1 s.size=t)∧(neg=false→s=t):=by
  cases neg with
  | true=>
   have hs':s.data.toList=45::d:=by rw[hs,hle];rfl
   exact⟨s.extract 1 s.size,by rw[xI hs',kC hs',List.take_of_length_le (Nat.le_refl _)];rfl,fun _=>rfl,(fun h=>by cases h)⟩
  | false=>exact⟨s,by rw[hs,hle];rfl,(fun h=>by cases h),fun _=>rfl⟩
 have htz:=kC ht
 have ea:(t.extract 0 (jk d)).data.toList=d.take (jk d):=by rw[xI ht];simp
 have eb:(t.extract (jk d+1) t.size).data.toList=d.drop (jk d+1):=by rw[xI ht,htz,List.take_of_length_le (Nat.le_refl _)]
 have hA:(cut d [47]).1=d.take (jk d):=by
  rcases hc with ⟨_,_,h,_⟩ | ⟨_,h,h2⟩
  ·exact h
  ·rw[h2,List.take_of_length_le (Nat.le_refl _)];exact h.symm
 have SL:∀W,Calls Tryz.prog 103 #[.string t] W (xG (jk d) W):=fun W=>by have h:=zF t W (by omega);rw[ht] at h;exact h
 have DA:∀W,Calls Tryz.prog 104 #[.string (t.extract 0 (jk d))] W (x9 (decide (jD (d.take (jk d)))) W):=fun W=>by
  have h:=UR (t.extract 0 (jk d)) W (by rw[kC ea,List.length_take];omega);rw[ea] at h;exact h
 have H:∀dA,decide (jD (d.take (jk d)))=dA→x5 s t neg (jk d) dA:=fun dA hdA=>by
  refine⟨by omega,by omega,by omega,fun hn=> ?_,fun hn=>⟨htl.2 hn,fun h0=> ?_⟩,SL,by rw[←hdA];exact DA,fun h=> ?_⟩
  ·subst hn
   have hs':s.data.toList=45::d:=by rw[hs,hle];rfl
   have h0:0<s.size:=by rw[kC hs'];simp
   exact⟨h0,by rw[KM hs' h0];rfl,htl.1 rfl⟩
  ·have hge:=xr s 0 h0
   rw[hs] at hge;exact Yc (n:=45) (by decide) (fun e=>hpre hn (by rw[hge,e];rfl))
  ·rw[←hdA] at h
   have hN:=of_decide_eq_true h
   have:d.take (jk d)≠[]:=by rcases hN.2 with h | h;rw[h];simp;exact h.1
   have h1:0<(d.take (jk d)).length:=List.length_pos_iff.2 this;rw[List.length_take] at h1;omega
 unfold Kf;rw[hA];by_cases hN:jD (d.take (jk d))
 ·have HH:=H true (decide_eq_true hN)
  by_cases hz:neg=true∧d.take (jk d)=[48]
  ·rw[if_pos (.inr hz)]
   exact RU s t neg _ w HH hz.1 (by rw[ByteArray.toList_eq,ea,hz.2];rfl)
  ·rw[if_neg (by rintro (h | h);exact h hN;exact hz h)]
   have NZ:neg=true→((t.extract 0 (jk d)).toList==[48])=false:=fun hn=>by
    rw[ByteArray.toList_eq,ea]
    have:d.take (jk d)≠[48]:=fun e=>hz ⟨hn,e⟩
    simpa using this
   rcases hc with ⟨hf,hd,_,hB,hlt⟩ | ⟨hf,hd,hk2⟩
   ·rw[if_pos hf,hB]
    have hltI:((jk d:Nat):Int)<(t.size:Int):=by omega
    have DB:∀W,Calls Tryz.prog 104 #[.string (t.extract (jk d+1) t.size)] W (x9 (decide (jD (d.drop (jk d+1)))) W):=fun W=>by
     have h:=UR (t.extract (jk d+1) t.size) W (by rw[kC eb,List.length_drop];omega);rw[eb] at h;exact h
    by_cases hNB:jD (d.drop (jk d+1))
    ·have hdB:=decide_eq_true hNB
     by_cases h48:d.drop (jk d+1)=[48]
     ·rw[if_pos (.inr (.inl h48))]
      exact RJ s t neg _ w HH NZ hltI _ DB hdB (by rw[ByteArray.toList_eq,eb,h48];rfl)
     ·have h48':((t.extract (jk d+1) t.size).toList==[48])=false:=by rw[ByteArray.toList_eq,eb];simpa using h48
      by_cases h49:d.drop (jk d+1)=[49]
      ·rw[if_pos (.inr (.inr h49))]
       exact RK s t neg _ w HH NZ hltI _ DB hdB h48' (by rw[ByteArray.toList_eq,eb,h49];rfl)
      ·have h49':((t.extract (jk d+1) t.size).toList==[49])=false:=by rw[ByteArray.toList_eq,eb];simpa using h49
       rw[if_neg (by rintro (h | h | h);exact h hNB;exact h48 h;exact h49 h)]
       have la:(d.take (jk d)).length=jk d:=by rw[List.length_take];omega
       have lb:(d.drop (jk d+1)).length=d.length-(jk d+1):=List.length_drop;by_cases hla:600<jk d
       ·rw[if_pos (.inl (by omega))]
        exact RQ s t neg _ w HH NZ hltI _ DB hdB h48' h49' (by omega)
       ·by_cases hlb:600<(d.drop (jk d+1)).length
        ·rw[if_pos (.inr hlb)]
         exact RT s t neg _ w HH NZ hltI _ DB hdB h48' h49' (by omega) (by omega)
        ·rw[if_neg (by omega)]
         have b0:0<jf (d.drop (jk d+1)):=by
          have:=XK hNB (decDigits_one (by decide:(0:Nat)<10)) h48;omega
         have PT:Hid (∀W,Calls Tryz.prog 105 #[.string t] W (xL ((jf (d.take (jk d)):Nat):Int) ((jf (d.drop (jk d+1)):Nat):Int) W)):=hid (fun W=>by
          have na:0<(d.take (jk d)).length:=List.length_pos_iff.2 (by rcases hN.2 with h | h;rw[h];simp;exact h.1);have nb:0<(d.drop (jk d+1)).length:=List.length_pos_iff.2 (by rcases hNB.2 with h | h;rw[h];simp;exact h.1)
          have h:=Wr false (d.take (jk d)) (d.drop (jk d+1)) t W (by rw[ht];conv=>lhs;rw[hd,hA,hB]
                                                                     rfl) hN.1 hNB.1 na nb (by omega) (by omega)
          have e:sg false (jf (d.take (jk d)))=((jf (d.take (jk d)):Nat):Int):=by unfold sg;rw[if_neg (by decide)]
          rw[e] at h;exact h)
         have B1:=hid (Uv (Mc hN.1 (by omega)));have B2:=hid (Uv (Mc hNB.1 (by omega)));by_cases hg:Nat.gcd (jf (d.take (jk d))) (jf (d.drop (jk d+1)))=1
         ·rw[if_pos hg]
          exact RN s t neg _ w HH NZ hltI _ DB hdB h48' h49' (by omega) (by omega) _ _ PT B1 B2 (hid b0) (hid hg)
         ·rw[if_neg hg]
          exact RL s t neg _ w HH NZ hltI _ DB hdB h48' h49' (by omega) (by omega) _ _ PT B1 B2 (hid b0) (hid hg)
    ·rw[if_pos (.inl hNB)]
     exact RI s t neg _ w HH NZ hltI _ DB (decide_eq_false hNB)
   ·rw[if_neg (by rw[hf];decide)]
    have la:(d.take (jk d)).length=d.length:=by rw[List.length_take];omega
    by_cases hla:600<d.length
    ·rw[if_pos (by omega)]
     exact RY s t neg _ w HH NZ (by omega) (by omega)
    ·rw[if_neg (by omega)]
     exact RZ s t neg _ w HH NZ (by omega) (by omega)
 ·rw[if_pos (.inl hN)]
  exact RH s t neg _ w (H false (decide_eq_false hN))
theorem Ll (l:jn):((⟨l.toArray⟩:ByteArray).size)=l.length:=by simp[ByteArray.size]
def yT (n:Nat) (L:List jn):Prop:=L.length≤n ∧ ∀l∈L,l.length≤n
instance (n:Nat) (L:List jn):Decidable (yT n L):=by unfold yT;infer_instance
def xT (n:Nat) (M:List (List jn)):Prop:=M.length≤n ∧ ∀r∈M,yT n r
instance (n:Nat) (M:List (List jn)):Decidable (xT n M):=by unfold xT;infer_instance
theorem Hw {α:Type} {P:α→Prop} {L:List α} {k:Nat} {x:α} (hx:L[k]? =some x) (h:∀l∈L.take k,P l) (hp:P x):∀l∈L.take (k+1),P l:=by
 intro l hl;rw[List.take_add_one,hx] at hl;rcases List.mem_append.1 hl with h1 | h1
 ·exact h l h1
 ·simp at h1;rw[h1];exact hp
theorem CT (v:Value) (L:List jn) (n:Nat) (w:World) (hv:jB w v (jO L)) (hn:n≤1000):
  Calls Tryz.prog 75 #[v,.int .i64 n] w fun e w'=>e = .returned (.bool (decide (yT n L)))∧Below w.heap.size w w':=by
 obtain⟨A,c,rfl,hc1,hc2⟩:=hv.form;simp only[qg] at hc1 hc2 hv ⊢
 obtain⟨r,hr⟩:∃r,decide (yT n L)=r:=⟨_,rfl⟩
 rw[hr];by_cases hl:n<L.length
 ·have hin:(n:Int)<(L.length:Int):=by omega
  have HF:Hid (r=false):=hid (by rw[←hr];simp only[decide_eq_false_iff_not];intro h;have:=h.1;omega);clear hr hv hl;go_enter Tryz.func75,Tryz.ntmps75
  go_wp2
  go_ret;exact⟨by rw[HF.out];rfl,Below.refl _ _⟩
 ·have hin0:¬(n:Int)<(L.length:Int):=by omega
  have HYes:Hid ((∀l∈L,l.length≤n)→r=true):=hid (fun h=>by rw[←hr];exact decide_eq_true ⟨by omega,h⟩);have HNo:Hid (∀l∈L,¬l.length≤n→r=false):=hid (fun l hm h=>by rw[←hr];exact decide_eq_false (fun k=>h (k.2 l hm)));clear hr hl;go_enter Tryz.func75,Tryz.ntmps75
  go_wp2_with fail
  go_loopg [5] L.length (fun g i wr=>∃(k:Nat),k+g=L.length∧i = .int .i64 k∧Hid (∀l∈L.take k,l.length≤n)∧Below w.heap.size w wr)
  case atStart=>exact⟨0,by omega,rfl,hid (by simp),Below.refl _ _⟩
  case round=>
   obtain⟨k,hk,rfl,hD,hB⟩:=hrel
   cases gk with
   | zero=>
    have hin:¬((k:Int)<(L.length:Int)):=by omega
    have HT:Hid (r=true):=hid (HYes.out (by have:=hD.out;rwa [List.take_of_length_le (by omega)] at this));clear hk
    go_wp2
    go_ret;exact⟨by rw[HT.out];rfl,hB⟩
   | succ g=>
    have hlt:k<L.length:=by omega
    have hin:(k:Int)<(L.length:Int):=by omega
    obtain⟨b1,off1,rfl,hbb1,hcell1⟩:=hv.at_ (k:=k) (by rw[qg];omega);have hck:=(hB.cell (p:=⟨b1,off1+k,none⟩) hbb1).trans ((hcell1 k (by rw[qg];omega)).trans (JC L k hlt))
    have hx:L[k]? =some (L[k]?.getD []):=by rw[List.getElem?_eq_getElem hlt];rfl
    have HN:=hid (fun h=>HNo.out _ (List.mem_of_getElem? hx) h);have HS:=hid (fun h=>Hw (P:=fun l=>l.length≤n) hx hD.out h);have Hk:=hid hk;clear hx hcell1 hk hD hv;generalize L[k]?.getD []=l at *;have hz:=Ll l;unfold sv at hck;generalize (⟨l.toArray⟩:ByteArray)=s at *;by_cases h1:l.length≤n
    ·have hb:¬((n:Int)<(s.size:Int)):=by omega
     have HS2:=hid (HS.out h1);clear h1 hz HS HN
     go_wp2
     go_roundg g
     case rel=>exact⟨k+1,by have:=Hk.out;omega,by go_num,HS2,hB⟩
     case measure=>omega
    ·have hb:((n:Int)<(s.size:Int)):=by omega
     have HF:=hid (HN.out h1);clear h1 hz HS HN
     go_wp2
     go_ret;exact⟨by rw[HF.out];rfl,hB⟩
theorem CS (v:Value) (M:List (List jn)) (n:Nat) (w:World) (hv:kd w v M) (hn:n≤1000):
  Calls Tryz.prog 65 #[v,.int .i64 n] w fun e w'=>e = .returned (.bool (decide (xT n M)))∧Below w.heap.size w w':=by
 obtain⟨vs,hvs,hvl,hvr⟩:=hv;obtain⟨A,c,rfl,hc1,hc2⟩:=hvs.form;rw[hvl] at hvs hc1 hc2;rw[hvl];have HVR:=hid hvr
 obtain⟨r,hr⟩:∃r,decide (xT n M)=r:=⟨_,rfl⟩
 rw[hr];clear hvr;by_cases hl:n<M.length
 ·have hin:(n:Int)<(M.length:Int):=by omega
  have HF:Hid (r=false):=hid (by rw[←hr];simp only[decide_eq_false_iff_not];intro h;have:=h.1;omega);clear hr hvs hl;go_enter Tryz.func65,Tryz.ntmps65
  go_wp2
  go_ret;exact⟨by rw[HF.out];rfl,Below.refl _ _⟩
 ·have hin0:¬(n:Int)<(M.length:Int):=by omega
  have HYes:Hid ((∀l∈M,yT n l)→r=true):=hid (fun h=>by rw[←hr];exact decide_eq_true ⟨by omega,h⟩);have HNo:Hid (∀l∈M,¬yT n l→r=false):=hid (fun l hm h=>by rw[←hr];exact decide_eq_false (fun k=>h (k.2 l hm)));clear hr hl;go_enter Tryz.func65,Tryz.ntmps65
  go_wp2_with fail
  go_loopg [5] M.length (fun g i wr=>∃(k:Nat),k+g=M.length∧i = .int .i64 k∧Hid (∀l∈M.take k,yT n l)∧Below w.heap.size w wr)
  case atStart=>exact⟨0,by omega,rfl,hid (by simp),Below.refl _ _⟩
  case round=>
   obtain⟨k,hk,rfl,hD,hB⟩:=hrel
   cases gk with
   | zero=>
    have hin:¬((k:Int)<(M.length:Int)):=by omega
    have HT:Hid (r=true):=hid (HYes.out (by have:=hD.out;rwa [List.take_of_length_le (by omega)] at this));clear hk
    go_wp2
    go_ret;exact⟨by rw[HT.out];rfl,hB⟩
   | succ g=>
    have hlt:k<M.length:=by omega
    have hin:(k:Int)<(M.length:Int):=by omega
    have hx:M[k]? =some M[k]:=List.getElem?_eq_getElem hlt;obtain⟨u1,hu1,hs1⟩:=HVR.out k _ hx;obtain⟨b1,off1,rfl,hbb1,hcell1⟩:=hvs.at_ (k:=k) (by rw[hvl];omega);have hck:=(hB.cell (p:=⟨b1,off1+k,none⟩) hbb1).trans ((hcell1 k (by rw[hvl];omega)).trans hu1);have SR:=hid (CT u1 M[k] n wr (hs1.below hB) hn);have HN:=hid (fun h=>HNo.out _ (List.mem_of_getElem? hx) h);have HS:=hid (fun h=>Hw (P:=fun l=>yT n l) hx hD.out h);have Hk:=hid hk;obtain⟨A1,c1,rfl,_,_⟩:=hs1.form;clear hx hcell1 hk hD hvs hu1 hs1;generalize M[k]=l at *;by_cases h1:yT n l
    ·have HS2:=hid (HS.out h1)
     rw[decide_eq_true h1] at SR;clear h1 HS HN
     go_wp2_with fail
     refine SR.out.mono ?_;rintro e w2 ⟨rfl,hB2⟩;have HB2:=hid (hB.trans (hB2.mono hB.size));clear SR hB2
     go_wp2
     go_roundg g
     case rel=>exact⟨k+1,by have:=Hk.out;omega,by go_num,HS2,HB2.out⟩
     case measure=>omega
    ·have HF:=hid (HN.out h1)
     rw[decide_eq_false h1] at SR;clear h1 HS HN
     go_wp2_with fail
     refine SR.out.mono ?_;rintro e w2 ⟨rfl,hB2⟩;have HB2:=hid (hB.trans (hB2.mono hB.size));clear SR hB2
     go_wp2
     go_ret;exact⟨by rw[HF.out];rfl,HB2.out⟩
theorem Cy (v:Value) (L:List jn) (w:World) (hv:jB w v (jO L)) (hb:∀l∈L,l.length≤9000000):
  Calls Tryz.prog 79 #[v] w fun e w'=>e = .returned (.int .i64 (ku L))∧Below w.heap.size w w':=by
 obtain⟨A,c,rfl,hc1,hc2⟩:=hv.form;simp only[qg] at hc1 hc2 hv ⊢
 obtain⟨E,hE⟩:∃E,ku L=E:=⟨_,rfl⟩
 have HE:=hid hE;have HBL:=hid hb;rw[hE];clear hE hb;go_enter Tryz.func79,Tryz.ntmps79
 go_wp2_with fail
 go_loopg [3] L.length (fun g i wr=>∃(k:Nat),k+g=L.length∧i = .int .i64 k∧Hid (ku (L.drop k)=E)∧Below w.heap.size w wr)
 case atStart=>exact⟨0,by omega,rfl,hid (by rw[List.drop_zero];exact HE.out),Below.refl _ _⟩
 case round=>
  obtain⟨k,hk,rfl,hD,hB⟩:=hrel
  cases gk with
  | zero=>
   have hin:¬((k:Int)<(L.length:Int)):=by omega
   have HT:Hid (E=0):=hid (by rw[←hD.out,List.drop_eq_nil_of_le (by omega)];rfl);clear hk
   go_wp2
   go_ret;exact⟨by rw[HT.out];rfl,hB⟩
  | succ g=>
   have hlt:k<L.length:=by omega
   have hin:(k:Int)<(L.length:Int):=by omega
   obtain⟨b1,off1,rfl,hbb1,hcell1⟩:=hv.at_ (k:=k) (by rw[qg];omega);have hck:=(hB.cell (p:=⟨b1,off1+k,none⟩) hbb1).trans ((hcell1 k (by rw[qg];omega)).trans (JC L k hlt))
   have hx:L[k]? =some (L[k]?.getD []):=by rw[List.getElem?_eq_getElem hlt];rfl
   have HD:=hid (Gq k L hx);have CK:=hid (Cz (L[k]?.getD []) wr (HBL.out _ (List.mem_of_getElem? hx)));have Hk:=hid hk;clear hx hcell1 hk hv;generalize L[k]?.getD []=l at *;unfold sv at hck;generalize (⟨l.toArray⟩:ByteArray)=s at *;generalize (jY l).1=x at *;by_cases h1:x=0
   ·subst h1
    have HS:Hid (ku (L.drop (k+1))=E):=hid (by rw[←hD.out,HD.out,if_pos rfl]);clear hD HD
    go_wp2_with fail
    refine CK.out.mono ?_;rintro e w2 ⟨rfl,hB2⟩;have HB2:=hid (hB.trans (hB2.mono hB.size));clear CK hB2
    go_wp2
    go_roundg g
    case rel=>exact⟨k+1,by have:=Hk.out;omega,by go_num,HS,HB2.out⟩
    case measure=>omega
   ·have HF:Hid (E=x):=hid (by rw[←hD.out,HD.out,if_neg h1])
    have hb:(x != 0)=true:=by simpa using h1
    clear hD HD h1
    go_wp2_with fail
    refine CK.out.mono ?_;rintro e w2 ⟨rfl,hB2⟩;have HB2:=hid (hB.trans (hB2.mono hB.size));clear CK hB2
    go_wp2
    go_ret;exact⟨by rw[HF.out];rfl,HB2.out⟩
theorem Cx (v:Value) (M:List (List jn)) (w:World) (hv:kd w v M) (hb:∀r∈M,∀l∈r,l.length≤9000000):
  Calls Tryz.prog 66 #[v] w fun e w'=>e = .returned (.int .i64 (jT M))∧Below w.heap.size w w':=by
 obtain⟨vs,hvs,hvl,hvr⟩:=hv;obtain⟨A,c,rfl,hc1,hc2⟩:=hvs.form;rw[hvl] at hvs hc1 hc2
 obtain⟨E,hE⟩:∃E,jT M=E:=⟨_,rfl⟩
 rw[hE,hvl];have HBL:=hid hb;clear hb;by_cases h256:256<M.length
 ·have hin:(256:Int)<(M.length:Int):=by omega
  have HF:Hid (E=5):=hid (by rw[←hE];unfold jT;rw[if_pos h256]);clear hE hvr hvs h256;go_enter Tryz.func66,Tryz.ntmps66
  go_wp2
  go_ret;exact⟨by rw[HF.out];rfl,Below.refl _ _⟩
 ·have hbig:¬((256:Int)<(M.length:Int)):=by omega
  obtain⟨n0,hn0⟩:∃n0,((M[0]?.map (·.length)).getD 0)=n0:=⟨_,rfl⟩
  have HE:Hid (xk n0 M=E):=hid (by rw[←hE,←hn0];unfold jT;rw[if_neg h256]);have HVR:=hid hvr;have HN:=hid hn0;clear hE hvr h256 hn0;go_enter Tryz.func66,Tryz.ntmps66
  go_wp2_with fail
  go_loopg [3] M.length (fun g i wr=>∃(k:Nat),k+g=M.length∧i = .int .i64 k∧Hid (xk n0 (M.drop k)=E)∧Below w.heap.size w wr)
  case atStart=>exact⟨0,by omega,rfl,hid (by rw[List.drop_zero];exact HE.out),Below.refl _ _⟩
  case round=>
   obtain⟨k,hk,rfl,hD,hB⟩:=hrel
   cases gk with
   | zero=>
    have hin:¬((k:Int)<(M.length:Int)):=by omega
    have HT:Hid (E=0):=hid (by rw[←hD.out,List.drop_eq_nil_of_le (by omega)];rfl);clear hk
    go_wp2
    go_ret;exact⟨by rw[HT.out];rfl,hB⟩
   | succ g=>
    have hlt:k<M.length:=by omega
    have hin:(k:Int)<(M.length:Int):=by omega
    have hl0:0<M.length:=by omega
    obtain⟨v1,hv1,hs1⟩:=HVR.out k _ (List.getElem?_eq_getElem hlt);obtain⟨v0,hv0,hs0⟩:=HVR.out 0 _ (List.getElem?_eq_getElem hl0);obtain⟨b1,off1,rfl,hbb1,hcell1⟩:=hvs.at_ (k:=k) (by rw[hvl];omega);have hck1:=(hB.cell (p:=⟨b1,off1+k,none⟩) hbb1).trans ((hcell1 k (by rw[hvl];omega)).trans hv1);have hck0:=(hB.cell (p:=⟨b1,off1+0,none⟩) hbb1).trans ((hcell1 0 (by rw[hvl];omega)).trans hv0);rw[Nat.add_zero] at hck0;obtain⟨A1,c1,rfl,ha1,ha2⟩:=hs1.form;obtain⟨A0,c0,rfl,he1,he2⟩:=hs0.form;simp only[qg] at hs1 hs0 ha1 ha2 he1 he2 hck1 hck0;have hrow:=hid (Gw n0 k M (List.getElem?_eq_getElem hlt))
    have HL0:M[0].length=n0:=by rw[←HN.out,List.getElem?_eq_getElem hl0];rfl
    rw[HL0] at hck0 he1;have CR:=hid (fun W (hw:Below w.heap.size w W)=>Cy (.slice A1 M[k].length c1) M[k] W (hs1.below hw) (HBL.out _ (List.getElem_mem hlt)));have Hk:=hid hk;clear hcell1 hvs hk hv1 hv0 hs0 HL0 hs1;generalize M[k]=r at *;by_cases h1:256<r.length
    ·have hb1:(256:Int)<(r.length:Int):=by omega
     have HF:Hid (E=5):=hid (by rw[←hD.out,hrow.out,if_pos h1]);clear h1 hD hrow CR
     go_wp2
     go_ret;exact⟨by rw[HF.out];rfl,hB⟩
    ·have hb1:¬((256:Int)<(r.length:Int)):=by omega
     by_cases h2:r.length≠n0
     ·have hb2:((r.length:Int) != (n0:Int))=true:=by simp;omega
      have HF:Hid (E=2):=hid (by rw[←hD.out,hrow.out,if_neg h1,if_pos h2]);clear h1 h2 hD hrow CR
      go_wp2
      go_quiet (fail)
      have hB':=below_drewN hB nq
      go_wp2
      go_ret;exact⟨by rw[HF.out];rfl,hB'⟩
     ·have hb2:((r.length:Int) != (n0:Int))=false:=by simp;omega
      have HR:Hid (E=if ku r=0 then xk n0 (M.drop (k+1)) else ku r):=hid (by rw[←hD.out,hrow.out,if_neg h1,if_neg h2]);clear h1 h2 hD hrow
      go_wp2
      go_quiet (fail)
      have hB':=below_drewN hB nq;have hck2:=hck1;have CR2:=hid (CR.out _ hB');clear CR;generalize ku r=x at *;by_cases h3:x=0
      ·subst h3
       have HS:Hid (xk n0 (M.drop (k+1))=E):=hid (by rw[HR.out,if_pos rfl]);clear HR
       go_wp2_with fail
       refine CR2.out.mono ?_;rintro e w2 ⟨rfl,hB2⟩;have HB2:=hid (hB'.trans (hB2.mono hB'.size));clear CR2 hB2
       go_wp2
       go_roundg g
       case rel=>exact⟨k+1,by have:=Hk.out;omega,by go_num,HS,HB2.out⟩
       case measure=>omega
      ·have HF:Hid (E=x):=hid (by rw[HR.out,if_neg h3])
       have hb:(x != 0)=true:=by simpa using h3
       clear HR h3
       go_wp2_with fail
       refine CR2.out.mono ?_;rintro e w2 ⟨rfl,hB2⟩;have HB2:=hid (hB'.trans (hB2.mono hB'.size));clear CR2 hB2
       go_wp2
       go_ret;exact⟨by rw[HF.out];rfl,HB2.out⟩
theorem CU (v:Value) (M:List (List jn)) (w:World) (hv:kd w v M):
  Calls Tryz.prog 74 #[v] w fun e w'=>e = .returned (.int .i64 ((M[0]?.map (·.length)).getD 0:Nat))∧w=w':=by
 obtain⟨vs,hvs,hvl,hvr⟩:=hv;obtain⟨A,c,rfl,hc1,hc2⟩:=hvs.form;rw[hvl] at hvs hc1 hc2 ⊢;by_cases h0:M.length=0
 ·have hM:M=[]:=List.length_eq_zero_iff.1 h0
  subst hM;clear hvs hvr hvl;go_enter Tryz.func74,Tryz.ntmps74
  go_wp2
  go_ret;exact⟨rfl,rfl⟩
 ·have hl0:0<M.length:=by omega
  obtain⟨u,hu,hs⟩:=hvr 0 _ (List.getElem?_eq_getElem hl0);obtain⟨b,off,rfl,hbb,hcell⟩:=hvs.at_ (k:=0) (by rw[hvl];omega);have hc:=(hcell 0 (by rw[hvl];omega)).trans hu;obtain⟨A1,c1,rfl,_,_⟩:=hs.form;rw[qg,Nat.add_zero] at hc;have hz:((M.length:Int)==0)=false:=beq_false_of_ne (by omega)
  have h0':(0:Int)<(M.length:Int):=by omega
  have HW:Hid ((M[0]?.map (·.length)).getD 0=M[0].length):=hid (by rw[List.getElem?_eq_getElem hl0];rfl);rw[HW.out];clear hvs hvr hvl hcell hu hs HW;generalize M[0].length=n at *;go_enter Tryz.func74,Tryz.ntmps74
  go_wp2
  go_ret;exact⟨rfl,rfl⟩
def zA (G:Nat) (w:World) (e:Ending) (w':World):Prop:=∃g,e = .returned g∧Nt w' g G∧Below w.heap.size w w'
structure zL (x y a b gh:Nat):Prop where
 le:b≤a
 gh:a+b≤gh
 gcd:Nat.gcd a b=Nat.gcd x y
 big:kq a
theorem Nz (v u:Value) (x y:Nat) (w:World) (h:Nt w v x) (h':Nt w u y) (hle:y≤x) (hf:kq x):
  Calls Tryz.prog 172 #[v,u] w (zA (Nat.gcd x y) w):=by
 obtain⟨A,n,c,hv,_⟩:=h.size_;obtain⟨B,m,d,hu,_⟩:=h'.size_;have ho:=Jz hle;have Hh:=hid h;clear h;have Hh':=hid h';clear h';have HI0:Hid (zL x y x y (x+y)):=hid ⟨hle,Nat.le_refl _,rfl,hf⟩;subst hv hu;clear hle hf;go_enter Tryz.func172,Tryz.ntmps172
 go_wp2_with fail
 refine(qY _ _ _ _ _ Hh.out Hh'.out).mono ?_;rintro e w' ⟨rfl,k,rfl⟩;have HA0:=hid (Hh.out.drewN k);have HB0:=hid (Hh'.out.drewN k);have HW0:Hid (Below w.heap.size w (w.drewN k)):=hid (below_drewN (Below.refl _ _) k)
 go_wp2_with fail
 clear ho
 go_loopg [0,1] (x+y) (fun gh v0 v1 wr=>∃a b:Nat,Hid (Nt wr v0 a)∧Hid (Nt wr v1 b)∧Hid (zL x y a b gh)∧Hid (Below w.heap.size w wr))
 case atStart=>exact⟨x,y,HA0,HB0,HI0,HW0⟩
 case round=>
  clear HA0 HB0 HI0 HW0 Hh Hh';obtain⟨a,b,hA,hB,hI,hW⟩:=hrel;by_cases hw:b<WB
  ·obtain⟨A1,n1,c1,hv1,_⟩:=hA.out.size_
   subst hv1;by_cases h0:b=0
   ·subst h0
    obtain⟨B1,d1,hu1⟩:=hB.out.zero_len;subst hu1;have HF:Hid (zA (Nat.gcd x y) w (.returned (.slice A1 n1 c1)) wr):=hid ⟨_,rfl,by rw[←hI.out.gcd,Nat.gcd_zero_right];exact hA.out,hW.out⟩;clear hA hB hI hW hw
    go_wp2
    go_ret;exact HF.out
   ·obtain⟨b1,off1,d1,hu1,hbl,hcell⟩:=hB.out.one_word (by omega) hw
    subst hu1;by_cases h1:b=1
    ·subst h1
     have HF:Hid (zA (Nat.gcd x y) w (.returned (.slice (some ⟨b1,off1,none⟩) 1 d1)) wr):=hid ⟨_,rfl,by rw[←hI.out.gcd,Nat.gcd_one_right];exact hB.out,hW.out⟩
     go_wp2_with fail
     refine(kU _ 1 _ hB.out).mono ?_;rintro e w1 ⟨rfl,rfl⟩;clear hA hB hI hW hw
     go_wp2
     go_ret;exact HF.out
    ·have hd:=hid (decide_eq_false h1)
     have DW:=hid (Yx _ a b wr hA.out (by omega) hw hI.out.big.one);have HG:=hid hI.out.gcd;have hgw:Hid (Nat.gcd a b<WB):=hid (Nat.lt_of_le_of_lt (Nat.gcd_le_right a (by omega)) hw);clear hA hI hw h0 h1
     go_wp2_with fail
     refine(kU _ b _ hB.out).mono ?_;rintro e w1 ⟨rfl,rfl⟩;rw[hd.out];clear hB
     go_wp2_with fail
     refine DW.out.mono ?_;rintro e w1 ⟨q,rfl,hq,hB1⟩;have hcell1:w1.cell? ⟨b1,off1,none⟩=some (.int .u64 (b:Int)):=(hB1.cell (p:=⟨b1,off1,none⟩) hbl).trans hcell
     go_wp2_with fail
     refine(Qq b (a%b) _).mono ?_;rintro e w2 ⟨rfl,mm,rfl⟩
     have hg:Nat.gcd b (a%b)=Nat.gcd a b:=by rw[Nat.gcd_comm b,←Nat.gcd_rec,Nat.gcd_comm]
     rw[hg]
     go_wp2_with fail
     refine(Jy (Nat.gcd a b) _ hgw.out).mono ?_;rintro e w3 ⟨r,rfl,hr,hB2⟩;have HF:Hid (zA (Nat.gcd x y) w (.returned r) w3):=hid ⟨r,rfl,by rw[←HG.out];exact hr,hW.out.trans ((hB1.trans ((below_drewN (Below.refl _ w1) mm).trans hB2 |>.mono hB1.size)).mono hW.out.size)⟩;clear hr hB2 hB1 hq hcell1 hg
     go_wp2
     go_ret;exact HF.out
  ·obtain⟨A1,n1,c1,hv1,_⟩:=hA.out.size_
   obtain⟨B1,m1,d1,hu1,hm2,_⟩:=hB.out.len_ge (Nat.not_lt.1 hw);subst hv1 hu1
   have hmI:(1:Int)<(m1:Int):=by omega
   have SO:=hid (GW _ _ a b wr hA.out hB.out hI.out.le (by have:=hI.out.le;omega) hI.out.big)
   have hb0:0<b:=by unfold WB at hw;omega
   have Hb0:=hid hb0;clear hw hb0
   go_wp2_with fail
   refine SO.out.mono ?_;rintro e w1 ⟨s,hk,hn,up,vp,uk,vk,un,vn,h0,h1,xx,yy,zz,rfl,hL,b1,b2,b3,b4,hB1⟩;have HL:=hid hL;have H4:=hid (And.intro b1 (And.intro b2 (And.intro b3 b4)));have HOb:Hid (ja (w1.alloc (.cells #[.int .u64 up,.int .u64 vp,.int .u64 uk,.int .u64 vk,.bool s] 257)) w1.heap.size 257 [.int .u64 up,.int .u64 vp,.int .u64 uk,.int .u64 vk,.bool s]):=hid (ja.make w1 _ _);have HBa:Hid (Below wr.heap.size wr (w1.alloc (.cells #[.int .u64 up,.int .u64 vp,.int .u64 uk,.int .u64 vk,.bool s] 257))):=hid (hB1.alloc hB1.size _);clear SO hL b1 b2 b3 b4 hB1;have hgk:=hI.out.gh;have hle2:=hI.out.le;have hb0:=Hb0.out
   cases gk with
   | zero=>exact absurd hgk (by omega)
   | succ gh=>
    have Hsum:Hid (b≤a∧a+b≤gh+1):=hid ⟨hle2,hgk⟩;clear hgk hle2 hb0
    go_wp2_with fail
    refine(VD up vp uk vk s _).mono ?_;rintro e w2 ⟨rfl,hB2⟩;have HBb:Hid (Below wr.heap.size wr w2):=hid (HBa.out.trans (hB2.mono HBa.out.size));have HO2:=hid (HOb.out.below hB2 HOb.out.lt);have HWb:Hid (Below w.heap.size w w2):=hid (hW.out.trans (HBb.out.mono hW.out.size));have HA2:=hid (hA.out.below HBb.out);have HB2:=hid (hB.out.below HBb.out);clear hB2 HOb HBa hA hB hW;by_cases hv0:vp=0
    ·rw[decide_eq_true hv0]
     have DB:=hid (U0 _ _ a b w2 HA2.out HB2.out Hb0.out hI.out.big);clear hv0
     go_wp2_with fail
     refine DB.out.mono ?_;rintro e w3 ⟨q,r,rfl,hq,hr,hB3⟩;have HR:=hid hr;have HB3:=hid (HB2.out.below hB3);have HW3:=hid (HWb.out.trans (hB3.mono HWb.out.size))
     have HI3:Hid (zL x y b (a%b) gh):=hid (by
      have hml:=Nat.mod_lt a Hb0.out;have hs:=Hsum.out
      exact⟨by omega,by omega,by rw[←hI.out.gcd,Nat.gcd_comm b,←Nat.gcd_rec,Nat.gcd_comm],kq.le hI.out.big hs.1⟩)
     clear hq hr hB3 DB HL H4 HO2 hI
     go_wp2
     go_roundg gh
     case rel=>exact⟨b,a%b,HB3,HR,HI3,HW3⟩
     case measure=>omega
    ·rw[decide_eq_false hv0]
     have AP:=hid (Uq _ _ a b h0 h1 s hk hn up vp uk vk un vn xx yy zz w2 HA2.out HB2.out hI.out.big (kq.le hI.out.big Hsum.out.1) HL.out hv0 H4.out.1 H4.out.2.1 H4.out.2.2.1 H4.out.2.2.2);have p0:=HO2.out.cell 0;have p1:=HO2.out.cell 1;have p2:=HO2.out.cell 2;have p3:=HO2.out.cell 3;have p4:=HO2.out.cell 4;simp only[List.getElem?_cons_zero,List.getElem?_cons_succ] at p0 p1 p2 p3 p4;clear hv0
     go_wp2_with fail
     refine AP.out.mono ?_;rintro e w3 ⟨g,l,X,Y,rfl,hg,hl,hB3,hYX,hXb,hgc⟩;have HG:=hid hg;have HLl:=hid hl;have HW3:=hid (HWb.out.trans (hB3.mono HWb.out.size))
     have HI3:Hid (zL x y X Y gh):=hid (by
      have hs:=Hsum.out
      exact⟨by omega,by omega,by rw[hgc];exact hI.out.gcd,kq.le hI.out.big (by omega)⟩)
     clear hg hl hB3 hYX hXb hgc AP HL H4 HO2 hI p0 p1 p2 p3 p4
     go_wp2
     go_roundg gh
     case rel=>exact⟨X,Y,HG,HLl,HI3,HW3⟩
     case measure=>omega
theorem NC (v u:Value) (x y:Nat) (w:World) (h:Nt w v x) (h':Nt w u y) (hle:x<y) (hf:kq y):
  Calls Tryz.prog 172 #[v,u] w (zA (Nat.gcd x y) w):=by
 obtain⟨A,n,c,hv,_⟩:=h.size_;obtain⟨B,m,d,hu,_⟩:=h'.size_;have ho:=hid (z8 hle);have Hh:=hid h;clear h;have Hh':=hid h';clear h';have HI0:Hid (zL x y y x (x+y)):=hid ⟨by omega,by omega,Nat.gcd_comm y x,hf⟩;subst hv hu;clear hle hf;go_enter Tryz.func172,Tryz.ntmps172
 go_wp2_with fail
 refine(qY _ _ _ _ _ Hh.out Hh'.out).mono ?_;rintro e w' ⟨rfl,k,rfl⟩;rw[ho.out];have HA0:=hid (Hh.out.drewN k);have HB0:=hid (Hh'.out.drewN k);have HW0:Hid (Below w.heap.size w (w.drewN k)):=hid (below_drewN (Below.refl _ _) k)
 go_wp2_with fail
 clear ho
 go_loopg [0,1] (x+y) (fun gh v0 v1 wr=>∃a b:Nat,Hid (Nt wr v0 a)∧Hid (Nt wr v1 b)∧Hid (zL x y a b gh)∧Hid (Below w.heap.size w wr))
 case atStart=>exact⟨y,x,HB0,HA0,HI0,HW0⟩
 case round=>
  clear HA0 HB0 HI0 HW0 Hh Hh';obtain⟨a,b,hA,hB,hI,hW⟩:=hrel;by_cases hw:b<WB
  ·obtain⟨A1,n1,c1,hv1,_⟩:=hA.out.size_
   subst hv1;by_cases h0:b=0
   ·subst h0
    obtain⟨B1,d1,hu1⟩:=hB.out.zero_len;subst hu1;have HF:Hid (zA (Nat.gcd x y) w (.returned (.slice A1 n1 c1)) wr):=hid ⟨_,rfl,by rw[←hI.out.gcd,Nat.gcd_zero_right];exact hA.out,hW.out⟩;clear hA hB hI hW hw
    go_wp2
    go_ret;exact HF.out
   ·obtain⟨b1,off1,d1,hu1,hbl,hcell⟩:=hB.out.one_word (by omega) hw
    subst hu1;by_cases h1:b=1
    ·subst h1
     have HF:Hid (zA (Nat.gcd x y) w (.returned (.slice (some ⟨b1,off1,none⟩) 1 d1)) wr):=hid ⟨_,rfl,by rw[←hI.out.gcd,Nat.gcd_one_right];exact hB.out,hW.out⟩
     go_wp2_with fail
     refine(kU _ 1 _ hB.out).mono ?_;rintro e w1 ⟨rfl,rfl⟩;clear hA hB hI hW hw
     go_wp2
     go_ret;exact HF.out
    ·have hd:=hid (decide_eq_false h1)
     have DW:=hid (Yx _ a b wr hA.out (by omega) hw hI.out.big.one);have HG:=hid hI.out.gcd;have hgw:Hid (Nat.gcd a b<WB):=hid (Nat.lt_of_le_of_lt (Nat.gcd_le_right a (by omega)) hw);clear hA hI hw h0 h1
     go_wp2_with fail
     refine(kU _ b _ hB.out).mono ?_;rintro e w1 ⟨rfl,rfl⟩;rw[hd.out];clear hB
     go_wp2_with fail
     refine DW.out.mono ?_;rintro e w1 ⟨q,rfl,hq,hB1⟩;have hcell1:w1.cell? ⟨b1,off1,none⟩=some (.int .u64 (b:Int)):=(hB1.cell (p:=⟨b1,off1,none⟩) hbl).trans hcell
     go_wp2_with fail
     refine(Qq b (a%b) _).mono ?_;rintro e w2 ⟨rfl,mm,rfl⟩
     have hg:Nat.gcd b (a%b)=Nat.gcd a b:=by rw[Nat.gcd_comm b,←Nat.gcd_rec,Nat.gcd_comm]
     rw[hg]
     go_wp2_with fail
     refine(Jy (Nat.gcd a b) _ hgw.out).mono ?_;rintro e w3 ⟨r,rfl,hr,hB2⟩;have HF:Hid (zA (Nat.gcd x y) w (.returned r) w3):=hid ⟨r,rfl,by rw[←HG.out];exact hr,hW.out.trans ((hB1.trans ((below_drewN (Below.refl _ w1) mm).trans hB2 |>.mono hB1.size)).mono hW.out.size)⟩;clear hr hB2 hB1 hq hcell1 hg
     go_wp2
     go_ret;exact HF.out
  ·obtain⟨A1,n1,c1,hv1,_⟩:=hA.out.size_
   obtain⟨B1,m1,d1,hu1,hm2,_⟩:=hB.out.len_ge (Nat.not_lt.1 hw);subst hv1 hu1
   have hmI:(1:Int)<(m1:Int):=by omega
   have SO:=hid (GW _ _ a b wr hA.out hB.out hI.out.le (by have:=hI.out.le;omega) hI.out.big)
   have hb0:0<b:=by unfold WB at hw;omega
   have Hb0:=hid hb0;clear hw hb0
   go_wp2_with fail
   refine SO.out.mono ?_;rintro e w1 ⟨s,hk,hn,up,vp,uk,vk,un,vn,h0,h1,xx,yy,zz,rfl,hL,b1,b2,b3,b4,hB1⟩;have HL:=hid hL;have H4:=hid (And.intro b1 (And.intro b2 (And.intro b3 b4)));have HOb:Hid (ja (w1.alloc (.cells #[.int .u64 up,.int .u64 vp,.int .u64 uk,.int .u64 vk,.bool s] 257)) w1.heap.size 257 [.int .u64 up,.int .u64 vp,.int .u64 uk,.int .u64 vk,.bool s]):=hid (ja.make w1 _ _);have HBa:Hid (Below wr.heap.size wr (w1.alloc (.cells #[.int .u64 up,.int .u64 vp,.int .u64 uk,.int .u64 vk,.bool s] 257))):=hid (hB1.alloc hB1.size _);clear SO hL b1 b2 b3 b4 hB1;have hgk:=hI.out.gh;have hle2:=hI.out.le;have hb0:=Hb0.out
   cases gk with
   | zero=>exact absurd hgk (by omega)
   | succ gh=>
    have Hsum:Hid (b≤a∧a+b≤gh+1):=hid ⟨hle2,hgk⟩;clear hgk hle2 hb0
    go_wp2_with fail
    refine(VD up vp uk vk s _).mono ?_;rintro e w2 ⟨rfl,hB2⟩;have HBb:Hid (Below wr.heap.size wr w2):=hid (HBa.out.trans (hB2.mono HBa.out.size));have HO2:=hid (HOb.out.below hB2 HOb.out.lt);have HWb:Hid (Below w.heap.size w w2):=hid (hW.out.trans (HBb.out.mono hW.out.size));have HA2:=hid (hA.out.below HBb.out);have HB2:=hid (hB.out.below HBb.out);clear hB2 HOb HBa hA hB hW;by_cases hv0:vp=0
    ·rw[decide_eq_true hv0]
     have DB:=hid (U0 _ _ a b w2 HA2.out HB2.out Hb0.out hI.out.big);clear hv0
     go_wp2_with fail
     refine DB.out.mono ?_;rintro e w3 ⟨q,r,rfl,hq,hr,hB3⟩;have HR:=hid hr;have HB3:=hid (HB2.out.below hB3);have HW3:=hid (HWb.out.trans (hB3.mono HWb.out.size))
     have HI3:Hid (zL x y b (a%b) gh):=hid (by
      have hml:=Nat.mod_lt a Hb0.out;have hs:=Hsum.out
      exact⟨by omega,by omega,by rw[←hI.out.gcd,Nat.gcd_comm b,←Nat.gcd_rec,Nat.gcd_comm],kq.le hI.out.big hs.1⟩)
     clear hq hr hB3 DB HL H4 HO2 hI
     go_wp2
     go_roundg gh
     case rel=>exact⟨b,a%b,HB3,HR,HI3,HW3⟩
     case measure=>omega
    ·rw[decide_eq_false hv0]
     have AP:=hid (Uq _ _ a b h0 h1 s hk hn up vp uk vk un vn xx yy zz w2 HA2.out HB2.out hI.out.big (kq.le hI.out.big Hsum.out.1) HL.out hv0 H4.out.1 H4.out.2.1 H4.out.2.2.1 H4.out.2.2.2);have p0:=HO2.out.cell 0;have p1:=HO2.out.cell 1;have p2:=HO2.out.cell 2;have p3:=HO2.out.cell 3;have p4:=HO2.out.cell 4;simp only[List.getElem?_cons_zero,List.getElem?_cons_succ] at p0 p1 p2 p3 p4;clear hv0
     go_wp2_with fail
     refine AP.out.mono ?_;rintro e w3 ⟨g,l,X,Y,rfl,hg,hl,hB3,hYX,hXb,hgc⟩;have HG:=hid hg;have HLl:=hid hl;have HW3:=hid (HWb.out.trans (hB3.mono HWb.out.size))
     have HI3:Hid (zL x y X Y gh):=hid (by
      have hs:=Hsum.out
      exact⟨by omega,by omega,by rw[hgc];exact hI.out.gcd,kq.le hI.out.big (by omega)⟩)
     clear hg hl hB3 hYX hXb hgc AP HL H4 HO2 hI p0 p1 p2 p3 p4
     go_wp2
     go_roundg gh
     case rel=>exact⟨X,Y,HG,HLl,HI3,HW3⟩
     case measure=>omega
theorem Ny (v u:Value) (x y:Nat) (w:World) (h:Nt w v x) (h':Nt w u y) (hf:kq x) (hg:kq y):
  Calls Tryz.prog 172 #[v,u] w (zA (Nat.gcd x y) w):=by
 rcases Nat.lt_or_ge x y with hl | hl
 ·exact NC v u x y w h h' hl hg
 ·exact Nz v u x y w h h' hl hf
theorem SD:Jh where
 div:=fun hi lo y q r w h1 h2 h3 h4 h5=>Yw hi lo y q r w h1 h2 h3 h4 h5
 long:=fun v u x y w h h' hy hyx hb=>VK v u x y w h h' hy hyx hb
 gcd:=fun v u x y w h h' _ _ hx hy=>Ny v u x y w h h' hx hy
