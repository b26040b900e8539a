/- Contract: the text of a rational number. -/
import Derived.Test.YteagkgagdelklaaGreatDoorZT06
set_option maxRecDepth 100000
set_option maxHeartbeats 4000000
namespace Go.Proofs.YteagkgagdelklaaGreatDoor
open Go.RowKit Go.Lib
theorem Ba {W0 x x':World} {p:Nat} {a1 a2:Value} (hb:Below x.heap.size x x') (hp:p<W0.heap.size)
  (h1:x.cell? ⟨p,1,none⟩=some a1) (h2:x.cell? ⟨p,2,none⟩=some a2) (h5:Below W0.heap.size W0 x):
  x'.cell? ⟨p,1,none⟩=some a1∧x'.cell? ⟨p,2,none⟩=some a2∧Below W0.heap.size W0 x':=by
 have hs:=h5.size;exact⟨(hb.cell (p:=⟨p,1,none⟩) (Qac hp hs)).trans h1,(hb.cell (p:=⟨p,2,none⟩) (Qac hp hs)).trans h2,h5.trans (hb.mono hs)⟩
def jh (q:Rat):List UInt8:=(if q.num<0 then [45] else [])++decDigits q.num.natAbs++(if q.den=1 then [] else 47::decDigits q.den)
def k8 (q:Rat):Prop:=600<nDigits q.num.natAbs∨600<nDigits q.den
instance (q:Rat):Decidable (k8 q):=by unfold k8;infer_instance
def ye (q:Rat):Ending:=if k8 q then .returned (.tuple #[.string ⟨#[]⟩,.int .i64 4]) else .returned (.tuple #[.string ⟨(jh q).toArray⟩,.int .i64 0])
def P8 (q:Rat) (w:World) (e:Ending) (w':World):Prop:=e=ye q∧Below w.heap.size w w'
theorem Q8 {q:Rat} (h:k8 q):ye q = .returned (.tuple #[.string ⟨#[]⟩,.int .i64 4]):=by unfold ye;rw[if_pos h]
theorem JN {q:Rat} (h:¬k8 q):ye q = .returned (.tuple #[.string ⟨(jh q).toArray⟩,.int .i64 0]):=by unfold ye;rw[if_neg h]
theorem Yl {a b:ByteArray} (h:a=b):Ending.returned (.tuple #[.string a,.int .i64 0]) = .returned (.tuple #[.string b,.int .i64 0]):=by rw[h]
theorem Tp {x k:Nat} (hk:38≤k) (h:WB^k≤x):600<nDigits x:=by
 rcases Qae 600 (nDigits x) with h6 | h6
 ·exact h6
 ·exfalso
  have e1:10^nDigits x≤10^(19*k):=Qai (by decide) (by omega);rw[QbY] at e1;have e2:(10^19)^k≤WB^k:=Nat.pow_le_pow_left (by decide) k;exact Qb8 _ (Qac (lt_pow_nDigits x) (Qap e1 (Qap e2 h)))
theorem W8 {w:World} {v:Value} {x:Nat} (h:Nt w v x):∃A n c,v = .slice A n c∧n≤140737488355328∧(38<n→600<nDigits x)∧(nDigits x≤600→n≤38):=by
 obtain⟨ws,A,c,rfl,h1,h2,h3,hc1,hc2,hs⟩:=h.open_
 have key:38<ws.length→600<nDigits x:=by
  intro hl;have h4:=Km h3 (by intro e;subst e;simp at hl);rw[h1] at h4;exact Tp (by omega) h4
 exact⟨A,ws.length,c,rfl,by omega,key,fun h6=>by
  rcases Qae 38 ws.length with hl | hl
  ·have:=key hl;omega
  ·exact hl⟩
theorem YI (v:Value) (q:Rat) (w:World) (h:Rt w v q) (f1:jp q.num.natAbs) (f2:jp q.den) (hG:jK w):Calls Tryz.prog 45 #[v] w (P8 q w):=by
 obtain⟨neg,nv,dv,n,d,rfl,h1,h2,z1,z2,z3,z4,hneg,hn,hd⟩:=h.open_;clear z1 z2 z3 z4 h
 have hlong:k8 q↔(600<nDigits n∨600<nDigits d):=by unfold k8;rw[hn,hd]
 have htxt:jh q=(if neg=true then [45] else [])++decDigits n++(if d=1 then [] else 47::decDigits d):=by
  unfold jh;rw[hn,hd,hneg];congr 2;by_cases h:q.num<0 <;> simp[h]
 rw[←hn] at f1;rw[←hd] at f2;have Hlong:=hid hlong;have Htxt:=hid htxt;clear hlong htxt hneg hn hd;obtain⟨A1,k1,c1,hnv,hk1,hw1,hm1⟩:=W8 h1;obtain⟨A2,k2,c2,hdv,hk2,hw2,hm2⟩:=W8 h2
 obtain⟨W0,hW0⟩:∃W0,W0=w.alloc (.cells #[.bool neg,nv,dv] 69):=⟨_,rfl⟩
 have hP:ja W0 w.heap.size 69 [.bool neg,nv,dv]:=by rw[hW0];exact ja.make w _ [.bool neg,nv,dv]
 have hB0:Below w.heap.size w W0:=by rw[hW0];exact(Below.refl _ _).alloc (Nat.le_refl _) _
 have hp:w.heap.size<W0.heap.size:=by rw[hW0];simp
 have N1:=h1.below hB0;have N2:=h2.below hB0;have hG0:=hid (hG.below hB0);clear h1 h2 hG;obtain⟨a0,a1,a2,_,_,_⟩:=hP.three;by_cases hb1:38<k1
 ·have hL:=hid (Hlong.out.2 (.inl (hw1 hb1)))
  clear hw1 hw2 hm1 hm2 N1 N2;subst hnv hdv;go_enter Tryz.func45,Tryz.ntmps45
  go_upto_region 1 with fail
  rw[←hW0];clear hW0
  go_wp2
  go_ret2;exact⟨by rw[Q8 hL.out];rfl,hB0⟩
 ·by_cases hb2:38<k2
  ·have hL:=hid (Hlong.out.2 (.inr (hw2 hb2)))
   clear hw1 hw2 hm1 hm2 N1 N2;subst hnv hdv;go_enter Tryz.func45,Tryz.ntmps45
   go_upto_region 1 with fail
   rw[←hW0];clear hW0
   go_wp2
   go_ret2;exact⟨by rw[Q8 hL.out];rfl,hB0⟩
  ·clear hw1 hw2 hm1 hm2
   have hd1:decide ((38:Int)<(k1:Int))=false:=Qat (by omega);have hd2:decide ((38:Int)<(k2:Int))=false:=Qat (by omega);subst hnv hdv;go_enter Tryz.func45,Tryz.ntmps45
   go_upto_region 1 with fail
   rw[←hW0];clear hW0
   go_wp2
   go_region_held3 (fun w'=>w'.cell? ⟨w.heap.size,1,none⟩=some (.slice A1 k1 c1)∧w'.cell? ⟨w.heap.size,2,none⟩=some (.slice A2 k2 c2)∧Below W0.heap.size W0 w')
    (first | exact⟨a1,a2,(Below.refl _ _).drew⟩ | exact Ba (by assumption) hp (by assumption) (by assumption) (by assumption))
    (first
     | (go_at_call_of 96 (Value.slice A1 k1 c1);go_split_ands;refine(EA (.slice A1 k1 c1) n _ (N1.below (by assumption)) f1 (hG0.out.below (by assumption))).mono ?_;rintro e w1 ⟨rfl,hB1⟩)
     | (go_at_call_of 96 (Value.slice A2 k2 c2);go_split_ands;refine(EA (.slice A2 k2 c2) d _ (N2.below (by assumption)) f2 (hG0.out.below (by assumption))).mono ?_;rintro e w2 ⟨rfl,hB2⟩))
   have hS:w2.cell? ⟨w.heap.size,1,none⟩=some (.slice A1 k1 c1)∧w2.cell? ⟨w.heap.size,2,none⟩=some (.slice A2 k2 c2)∧Below W0.heap.size W0 w2:=by assumption
   have l1:=decDigits_length n;have l2:=decDigits_length d;have hWt:=hB0.trans (hS.2.2.mono hB0.size);have a0':=(hS.2.2.cell (p:=⟨w.heap.size,0,none⟩) hp).trans a0;have a1':=hS.1;have a2':=hS.2.1;have M2:=N2.below hS.2.2;clear hS;by_cases hl1:600<nDigits n
   ·have hL:=hid (Hlong.out.2 (.inl hl1))
    clear M2
    go_wp2
    go_ret2;exact⟨by rw[Q8 hL.out];rfl,hWt⟩
   ·by_cases hl2:600<nDigits d
    ·have hL:=hid (Hlong.out.2 (.inr hl2))
     clear M2
     go_wp2
     go_ret2;exact⟨by rw[Q8 hL.out];rfl,hWt⟩
    ·have hL:=hid (fun h=>by rcases Hlong.out.1 h with h | h;exact hl1 h;exact hl2 h:¬k8 q)
     by_cases hone:d=1
     ·have hd1':=QaK hone
      have Hd1:=hid hd1';cases neg
      ·have Ht:=hid (show jh q=decDigits n from by rw[Htxt.out,hone];simp)
       clear hone hd1'
       go_wp2_with fail
       refine(qf _ d _ M2).mono ?_;rintro e w3 ⟨rfl,rfl⟩;rw[Hd1.out]
       go_wp2
       go_ret2;refine⟨?_,hWt⟩;rw[JN hL.out];exact Yl (by rw[Ht.out])
      ·have Ht:=hid (show jh q=[45]++decDigits n from by rw[Htxt.out,hone];simp)
       clear hone hd1'
       go_wp2_with fail
       refine(qf _ d _ M2).mono ?_;rintro e w3 ⟨rfl,rfl⟩;rw[Hd1.out]
       go_wp2
       go_ret2;refine⟨?_,hWt⟩;rw[JN hL.out];exact Yl (by rw[Ht.out,←ByteArray.mk_append_mk])
     ·have hd1':=Qat hone
      have Hd1:=hid hd1';cases neg
      ·have Ht:=hid (show jh q=decDigits n++([47]++decDigits d) from by rw[Htxt.out,if_neg hone];simp)
       clear hone hd1'
       go_wp2_with fail
       refine(qf _ d _ M2).mono ?_;rintro e w3 ⟨rfl,rfl⟩;rw[Hd1.out]
       go_wp2
       go_ret2;refine⟨?_,hWt⟩;rw[JN hL.out];exact Yl (by rw[Ht.out,←ByteArray.mk_append_mk,←ByteArray.mk_append_mk])
      ·have Ht:=hid (show jh q=[45]++decDigits n++([47]++decDigits d) from by rw[Htxt.out,if_neg hone];simp)
       clear hone hd1'
       go_wp2_with fail
       refine(qf _ d _ M2).mono ?_;rintro e w3 ⟨rfl,rfl⟩;rw[Hd1.out]
       go_wp2
       go_ret2;refine⟨?_,hWt⟩;rw[JN hL.out];exact Yl (by rw[Ht.out,←ByteArray.mk_append_mk,←ByteArray.mk_append_mk,←ByteArray.mk_append_mk])
end Go.Proofs.YteagkgagdelklaaGreatDoor
namespace Go.Proofs.YteagkgagdelklaaGreatDoor
section
variable {K:Type} [Lean.Grind.Field K] {m n:Nat} {M:Nat→Nat→K}
structure Jp (n r:Nat) (c:Nat→Nat) (s:Nat) (fl:Nat→Nat):Prop where
 lt:∀i,i<s→fl i<n
 free:∀i,i<s → ∀j,j<r→fl i≠c j
 all:∀f,f<n→(∀j,j<r→f≠c j) → ∃i,i<s∧fl i=f
 inj:∀i j,i<s→j<s→i≠j→fl i≠fl j
variable {r s t:Nat} {c d fl:Nat→Nat} {E B:Nat→Nat→K}
theorem Jp.kron (F:Jp n r c s fl):yY s n fl (fun i=>qD c E (fl i) r):=by
 refine⟨F.lt,fun i hi=> ?_,fun i j hi hj hne=> ?_⟩
 ·show qD c E (fl i) r (fl i)=1
  rw[Jt r (F.free i hi),if_pos rfl]
 ·show qD c E (fl i) r (fl j)=0
  rw[Jt r (F.free j hj),if_neg (fun e=>F.inj i j hi hj hne e.symm)]
theorem Mo {V:(Nat→K)→Prop} (hV:JU V) (hm:∀i,i<r→V (E i)) {v:Nat→K} (hv:V v):∀k,k≤r→V (qK c E v k)
 | 0,_=>hv
 | k+1,hk=>hV _ _ _ (Mo hV hm hv k (by omega)) (hm k (by omega))
theorem Ml (h:yY r n c E) {v:Nat→K} :∀k,k≤r → ∀j,j<k→qK c E v k (c j)=0
 | 0,_,_,hj=>by omega
 | k+1,hk,j,hj=>by
  show qK c E v k (c j)-qK c E v k (c k)*E k (c j)=0
  by_cases hjk:j=k
  ·subst hjk
   rw[h.one j (by omega)];grind
  ·rw[Ml h k (by omega) j (by omega),h.zero k j (by omega) (by omega) (by omega)];grind
theorem Mk {v x:Nat→K} (hx:kn r n E x):∀k,k≤r→ke (fun j=>qK c E v k j*x j) n=ke (fun j=>v j*x j) n
 | 0,_=>rfl
 | k+1,hk=>by
  rw[Yu (g:=fun j=>qK c E v k j*x j) (h:=fun j=>E k j*x j) (t:=qK c E v k (c k)) n (fun j _=>by
   show (qK c E v k j-qK c E v k (c k)*E k j)*x j=_
   grind),Mk hx k (by omega),hx k (by omega)]
  grind
theorem Om (hE:yY r n c E) (hK:∀v,kn r n E v↔kn m n M v) (F:Jp n r c s fl) (hB:yY t n d B) (hmono:∀i j,i<j→j<t→d i<d j) (hbef:∀i,i<t → ∀k,k<d i→B i k=0)
  (hBK:∀x,kn t n B x→kn s n (fun i=>qD c E (fl i) r) x) (hmem:∀i,i<t→kn m n M (B i)):y5 (kn m n M) n t d B:=by
 refine⟨hB.lt,hmono,hB.one,hB.zero,hbef,hmem,fun v hv h0 k hk=> ?_⟩
 have hout:∀i,i<s→kn m n M (qD c E (fl i) r):=fun i hi=>(hK _).1 (Xm hE (F.lt i hi) (F.free i hi))
 have hdot:∀x,kn s n (fun i=>qD c E (fl i) r) x→ke (fun j=>v j*x j) n=0:=by
  intro x hx;rw[←Mk (c:=fl) hx s (Nat.le_refl _)];have hw:=Mo (c:=fl) (E:=fun i=>qD c E (fl i) r) (kn.spc m n M) hout hv s (Nat.le_refl _)
  have hz:=WK hE ((hK _).2 hw) (fun f hf hfree=>by
   obtain⟨i,hi,rfl⟩:=F.all f hf hfree
   exact Ml F.kron s (Nat.le_refl _) i hi)
  exact Yv n (fun j hj=>by rw[hz j hj];grind)
 by_cases hp:∃j,j<t∧k=d j
 ·obtain⟨j,hj,rfl⟩:=hp;exact h0 j hj
 ·have hf:∀i,i<t→k≠d i:=fun i hi e=>hp ⟨i,hi,e⟩
  have:=hdot _ (hBK _ (Xm hB hk hf));rw[QY (a:=k) n hk (fun j hj hne=> ?_),Jt t hf,if_pos rfl] at this
  ·grind
  ·by_cases hp2:∃i,i<t∧j=d i
   ·obtain⟨i,hi,rfl⟩:=hp2
    rw[h0 i hi];grind
   ·rw[Jt t (fun i hi e=>hp2 ⟨i,hi,e⟩),if_neg hne];grind
theorem kn.rev {v:Nat→K} (h:kn m n M v):kn m n (fun i k=>M i (n-1-k)) (fun k=>v (n-1-k)):=by
 intro i hi;rw[Et (fun k=>M i k*v k) n];exact h i hi
theorem Ol (hE:yY r n c E) (hK:∀v,kn r n E v↔kn m n (fun i k=>M i (n-1-k)) v) (hbef:∀i,i<r → ∀k,k<c i→E i k=0) (F:Jp n r c s fl) (hdec:∀i j,i<j→j<s→fl j<fl i):
  y5 (kn m n M) n s (fun i=>n-1-fl i) (fun i k=>qD c E (fl i) r (n-1-k)):=by
 have hk:=F.kron (E:=E);refine⟨fun i hi=> ?_,fun i j hij hj=> ?_,fun i hi=> ?_,fun i j hi hj hne=> ?_,fun i hi k hk2=> ?_,fun i hi=> ?_,fun v hv h0 k hkn=> ?_⟩
 ·have:=F.lt i hi;show n-1-fl i<n;omega
 ·have:=F.lt i (by omega);have:=F.lt j hj;have:=hdec i j hij hj;show n-1-fl i<n-1-fl j;omega
 ·have:=F.lt i hi
  show qD c E (fl i) r (n-1-(n-1-fl i))=1
  rw[show n-1-(n-1-fl i)=fl i by omega];exact hk.one i hi
 ·have:=F.lt j hj
  show qD c E (fl i) r (n-1-(n-1-fl j))=0
  rw[show n-1-(n-1-fl j)=fl j by omega];exact hk.zero i j hi hj hne
 ·have hk3:k<n-1-fl i:=hk2
  show qD c E (fl i) r (n-1-k)=0
  by_cases hp:∃j,j<r∧n-1-k=c j
  ·obtain⟨j,hj,e⟩:=hp
   rw[e,YW hE r (Nat.le_refl _) hj,hbef j hj _ (by omega)];grind
  ·rw[Jt r (fun j hj e=>hp ⟨j,hj,e⟩),if_neg (by omega)]
 ·have:=((hK _).1 (Xm hE (F.lt i hi) (F.free i hi))).rev
  intro p hp;rw[←this p hp];refine Jj n (fun x hx=> ?_)
  show M p x*_=M p (n-1-(n-1-x))*_
  rw[show n-1-(n-1-x)=x by omega]
 ·have:=WK hE ((hK _).2 hv.rev) (fun f hf hfree=>by
   obtain⟨i,hi,rfl⟩:=F.all f hf hfree
   exact h0 i hi) (n-1-k) (by omega)
  rw[show n-1-(n-1-k)=k by omega] at this;exact this
end
end Go.Proofs.YteagkgagdelklaaGreatDoor
namespace Go.Proofs.YteagkgagdelklaaGreatDoor
open Go.RowKit Go.Lib
def xa (neg:Bool) (n d:Nat):List UInt8:=(if neg then [45] else [])++decDigits n++(if d=1 then [] else 47::decDigits d)
theorem M5 {a:Int} {d:Nat} (hd:d≠0) (hc:Nat.gcd a.natAbs d=1):jh (mkRat a d)=xa (decide (a<0)) a.natAbs d:=by
 obtain⟨h1,h2⟩:=KJ hd hc;unfold jh xa;rw[h1,h2];by_cases h:a<0
 ·rw[if_pos h,QaK h];rfl
 ·rw[if_neg h,Qat h];rfl
theorem UM (a:Int) (d:Nat) (hd:0<d):∃(g n1 d1:Nat),Nat.gcd a.natAbs d=g∧0<g∧g≤d∧d/g=d1∧d1≤d∧0<d1∧n1≤a.natAbs∧a.tdiv g=sg (decide (a<0)) n1∧(a<0→0<n1)∧jh (mkRat a d)=xa (decide (a<0)) n1 d1:=by
 have hg:0<Nat.gcd a.natAbs d:=QaY _ hd;obtain⟨n1,hn⟩:=Qco a.natAbs d;obtain⟨d1,hd1⟩:=Qb6 a.natAbs d;generalize hgg:Nat.gcd a.natAbs d=g at *
 have e1:d/g=d1:=by rw[hd1,Nat.mul_div_cancel_left _ hg]
 have hd10:0<d1:=by rcases QaA d1 with h | h;subst h;omega;exact h
 have hd1le:d1≤d:=by rw[←e1];exact QaW _ _
 have hn1:n1≤a.natAbs:=by rw[hn];exact Qbw _ hg
 have hco:Nat.gcd n1 d1=1:=by
  have h:=hgg;rw[hn,hd1,Nat.gcd_mul_left] at h;exact Nat.eq_of_mul_eq_mul_left hg (by rw[h,Qbr])
 have ha:a=sg (decide (a<0)) n1*g:=by
  unfold sg;by_cases h:a<0
  ·rw[if_pos (QaK h)]
   have:(a.natAbs:Int)=(g:Int)*(n1:Int):=by rw[hn];simp
   rw[Int.neg_mul,Qct,←this];omega
  ·rw[if_neg (by simpa using h)]
   have:(a.natAbs:Int)=(g:Int)*(n1:Int):=by rw[hn];simp
   rw[Qct,←this];omega
 have hpos:a<0→0<n1:=by
  intro h;rcases QaA n1 with h1 | h1
  ·rw[h1,QbF] at hn;omega
  ·exact h1
 refine⟨g,n1,d1,rfl,hg,Nat.le_of_dvd hd ⟨d1,hd1⟩,e1,hd1le,hd10,hn1,?_,hpos,?_⟩
 ·conv=>lhs;rw[ha]
  exact Int.mul_tdiv_cancel _ (by omega)
 ·have hs:(sg (decide (a<0)) n1).natAbs=n1:=by unfold sg;split <;> simp
  have hneg:decide (sg (decide (a<0)) n1<0)=decide (a<0):=by
   unfold sg;by_cases h:a<0
   ·have:=hpos h
    simp[h];try omega
   ·simp[h];try omega
  have h2:mkRat a d=mkRat (sg (decide (a<0)) n1) d1:=by
   rw[show d=g*d1 from hd1]
   conv=>lhs;rw[ha,Qct]
   exact Rat.mkRat_mul_left (by omega)
  rw[h2,M5 (by omega) (by rw[hs];exact hco),hneg,hs]
theorem R4 (a:Int) (d g n n1 d1:Nat) (neg:Bool) (w:World) (ha: -4000000000000000000≤a∧a≤4000000000000000000) (hd0:(0:Int)<d) (hd:(d:Int)≤4000000000000000000) (hmx:Hid (max a (-a)=(n:Int))) (hg:Nat.gcd n d=g) (hg0:(0:Int)<g) (hgl:(g:Int)≤4000000000000000000)
  (hq:a.tdiv (g:Int)=sg neg n1) (hn1:(n1:Int)≤4000000000000000000) (hp:neg=true→(0:Int)<n1) (hdq:wrap64 ((d:Int)/(g:Int))=(d1:Int)) (hd1:(d1:Int)≤4000000000000000000) (hd10:(0:Int)<d1):
  Calls Tryz.prog 137 #[.int .i64 a,.int .i64 d] w (qh (xa neg n1 d1) w):=by
 have GC:=hid (fun w=>Aa n d w (by have:=hmx.out;omega) (by omega));rw[hg] at GC;clear hg;have DN:=hid (fun w=>Zc n1 w (by omega));have DD:=hid (fun w=>Zc d1 w (by omega));have hL1:=Za (n:=n1) (by omega);have hL2:=Za (n:=d1) (by omega)
 cases neg with
 | false=>
  have hq2:a.tdiv (g:Int)=(n1:Int):=hq;clear hq;clear hp;by_cases h1:(1:Int)<d1
  ·have HX:Hid (xa false n1 d1=decDigits n1++[47]++decDigits d1):=hid (by unfold xa;rw[if_neg (by omega:¬d1=1)];simp)
   go_enter Tryz.func137,Tryz.ntmps137
   go_wp2_with fail
   rw[hmx.out];refine(GC.out _).mono ?_;clear GC;rintro e w1 ⟨rfl,hB1⟩
   go_wp2_with (go_quiet (fail))
   have hB1':=below_drewN hB1 nq;rw[show max ((n1:Int)) (-(n1:Int))=n1 from by omega];refine(DN.out _).mono ?_;clear DN;rintro e w2 ⟨rfl,hB2⟩
   go_wp2_with fail
   refine(DD.out _).mono ?_;clear DD;rintro e w3 ⟨rfl,hB3⟩
   go_wp2
   go_ret;refine⟨?_,hB1'.trans ((hB2.mono hB1'.size).trans (hB3.mono (Qap hB1'.size hB2.size)))⟩;rw[HX.out];simp[ByteArray.mk_append_mk]
  ·have HX:Hid (xa false n1 d1=decDigits n1):=hid (by unfold xa;rw[if_pos (by omega:d1=1)];simp)
   go_enter Tryz.func137,Tryz.ntmps137
   go_wp2_with fail
   rw[hmx.out];refine(GC.out _).mono ?_;clear GC;rintro e w1 ⟨rfl,hB1⟩
   go_wp2_with (go_quiet (fail))
   have hB1':=below_drewN hB1 nq;rw[show max ((n1:Int)) (-(n1:Int))=n1 from by omega];refine(DN.out _).mono ?_;clear DN;rintro e w2 ⟨rfl,hB2⟩
   go_wp2
   go_ret;refine⟨?_,hB1'.trans (hB2.mono hB1'.size)⟩;rw[HX.out];simp[ByteArray.mk_append_mk]
 | true=>
  have hq2:a.tdiv (g:Int) = -(n1:Int):=hq;clear hq;have hp2:=hp rfl;clear hp;by_cases h1:(1:Int)<d1
  ·have HX:Hid (xa true n1 d1=[45]++decDigits n1++[47]++decDigits d1):=hid (by unfold xa;rw[if_neg (by omega:¬d1=1)];simp)
   go_enter Tryz.func137,Tryz.ntmps137
   go_wp2_with fail
   rw[hmx.out];refine(GC.out _).mono ?_;clear GC;rintro e w1 ⟨rfl,hB1⟩
   go_wp2_with (go_quiet (fail))
   have hB1':=below_drewN hB1 nq;rw[show max (-(n1:Int)) ((n1:Int))=n1 from by omega];refine(DN.out _).mono ?_;clear DN;rintro e w2 ⟨rfl,hB2⟩
   go_wp2_with fail
   refine(DD.out _).mono ?_;clear DD;rintro e w3 ⟨rfl,hB3⟩
   go_wp2
   go_ret;refine⟨?_,hB1'.trans ((hB2.mono hB1'.size).trans (hB3.mono (Qap hB1'.size hB2.size)))⟩;rw[HX.out];simp[ByteArray.mk_append_mk]
  ·have HX:Hid (xa true n1 d1=[45]++decDigits n1):=hid (by unfold xa;rw[if_pos (by omega:d1=1)];simp)
   go_enter Tryz.func137,Tryz.ntmps137
   go_wp2_with fail
   rw[hmx.out];refine(GC.out _).mono ?_;clear GC;rintro e w1 ⟨rfl,hB1⟩
   go_wp2_with (go_quiet (fail))
   have hB1':=below_drewN hB1 nq;rw[show max (-(n1:Int)) ((n1:Int))=n1 from by omega];refine(DN.out _).mono ?_;clear DN;rintro e w2 ⟨rfl,hB2⟩
   go_wp2
   go_ret;refine⟨?_,hB1'.trans (hB2.mono hB1'.size)⟩;rw[HX.out];simp[ByteArray.mk_append_mk]
theorem U7 (a:Int) (d:Nat) (w:World) (ha: -4000000000000000000≤a∧a≤4000000000000000000) (hd0:0<d) (hd:(d:Int)≤4000000000000000000):
  Calls Tryz.prog 137 #[.int .i64 a,.int .i64 d] w (qh (jh (mkRat a d)) w):=by
 obtain⟨g,n1,d1,h1,h2,h3,h4,h5,h6,h7,h8,h9,h10⟩:=UM a d hd0;rw[h10]
 have e:((d:Int)/(g:Int))=(d1:Int):=by rw[←h4];rfl
 refine R4 a d g a.natAbs n1 d1 (decide (a<0)) w ha (by omega) hd (hid (by omega)) h1 (by omega) (by omega) h8 (by omega) (fun h=>by have:=h9 (QaL h);omega) ?_ (by omega) (by omega)
 rw[e];exact IntWalk.wrap64_in _ (by omega)
end Go.Proofs.YteagkgagdelklaaGreatDoor
namespace Go.Proofs.YteagkgagdelklaaGreatDoor
section
variable {K:Type} [Lean.Grind.Field K] {m n:Nat} {M A:Nat→Nat→K}
structure qV (m n:Nat) (M A:Nat→Nat→K) (q fr:Nat) (c:Nat→Nat):Prop where
 ker:∀v,kn m n A v↔kn m n M v
 spc:∀V:(Nat→K)→Prop,JU V→(∀i,i<m→V (M i)) → ∀i,i<m→V (A i)
 lt:∀i,i<q→c i<fr
 mono:∀i j,i<j→j<q→c i<c j
 one:∀i,i<q→A i (c i)=1
 zero:∀i j,i<m→j<q→i≠j→A i (c j)=0
 before:∀i,i<q → ∀k,k<c i→A i k=0
 rest:∀i,q≤i→i<m → ∀k,k<fr→A i k=0
 qm:q≤m
def sw (q row i:Nat):Nat:=if i=q then row else if i=row then q else i
def qy (A:Nat→Nat→K) (q row col:Nat) (i k:Nat):K:=
 if i=q then A row k*(A row col)⁻¹ else A (sw q row i) k-A (sw q row i) col*(A row k*(A row col)⁻¹)
theorem Eu {f:Nat→K} (t:K):∀n,ke (fun k=>f k*t) n=ke f n*t
 | 0=>by show (0:K)=0*t;grind
 | n+1=>by
  show ke (fun k=>f k*t) n+f n*t=(ke f n+f n)*t
  rw[Eu t n];grind
variable {q fr row col:Nat} {c:Nat→Nat}
theorem O8 (hq:q<m) (hr:row<m) (hd:A row col≠0) (v:Nat→K):kn m n (qy A q row col) v↔kn m n A v:=by
 have hdd:=Lean.Grind.Field.mul_inv_cancel hd
 have eq:ke (fun k=>qy A q row col q k*v k) n=ke (fun k=>A row k*v k) n*(A row col)⁻¹:=by
  rw[←Eu];exact Jj n (fun k _=>by unfold qy;rw[if_pos rfl];grind)
 have ei:∀i,i≠q→ke (fun k=>qy A q row col i k*v k) n=ke (fun k=>A (sw q row i) k*v k) n-(A (sw q row i) col*(A row col)⁻¹)*ke (fun k=>A row k*v k) n:=by
  intro i hi;exact Yu n (fun k _=>by unfold qy;rw[if_neg hi];grind)
 constructor
 ·intro h
  have h0:ke (fun k=>A row k*v k) n=0:=by
   have:=h q hq;rw[eq] at this;generalize ke (fun k=>A row k*v k) n=s at *
   have e2:s=s*(A row col)⁻¹*A row col:=by grind
   rw[e2,this];grind
  have hx:∀i,i<m→i≠q→ke (fun k=>A (sw q row i) k*v k) n=0:=by
   intro i hi hne;have:=h i hi;rw[ei i hne,h0] at this
   grind
  intro i hi;by_cases h1:i=row
  ·rw[h1];exact h0
  ·by_cases h2:i=q
   ·have:=hx row hr (fun e=>h1 (by rw[h2,e]))
    unfold sw at this;rw[if_neg (fun e=>h1 (by rw[h2,e])),if_pos rfl] at this;rw[h2];exact this
   ·have:=hx i hi h2
    unfold sw at this;rw[if_neg h2,if_neg h1] at this;exact this
 ·intro h i hi
  by_cases h2:i=q
  ·rw[h2,eq,h row hr];grind
  ·rw[ei i h2,h row hr]
   have:sw q row i<m:=by unfold sw;split;exact hr;split <;> omega
   rw[h _ this];grind
theorem qV.step (h:qV m n M A q fr c) (hq:q≤row) (hr:row<m) (hf:fr≤col) (hd:A row col≠0) (h0:∀i,q≤i→i<m → ∀k,k<col→A i k=0):
  qV m n M (qy A q row col) (q+1) (col+1) (fun i=>if i=q then col else c i):=by
 have hdd:=Lean.Grind.Field.mul_inv_cancel hd
 have swm:∀i,i<m→sw q row i<m:=fun i hi=>by unfold sw;split;exact hr;split <;> omega
 have swq:∀i,q≤i→q≤sw q row i:=fun i hi=>by unfold sw;split;exact hq;split <;> omega
 have swl:∀i,i<q→sw q row i=i:=fun i hi=>by unfold sw;rw[if_neg (by omega),if_neg (by omega)]
 have hcol:∀i,i≠q→qy A q row col i col=0:=fun i hi=>by unfold qy;rw[if_neg hi];grind
 have hrow:∀j,j<q→A row (c j)=0:=fun j hj=>h.zero row j hr hj (by omega)
 refine⟨fun v=>(O8 (by omega) hr hd v).trans (h.ker v),fun V hV hM i hi=> ?_,fun i hi=> ?_,fun i j hij hj=> ?_,fun i hi=> ?_,fun i j hi hj hne=> ?_,fun i hi k hk=> ?_,fun i hi him k hk=> ?_,by omega⟩
 ·have hA:=h.spc V hV hM
  have hP:V (fun k=>A row k*(A row col)⁻¹):=by
   have:=hV _ _ (1-(A row col)⁻¹) (hA row hr) (hA row hr)
   have e:(fun k=>A row k-(1-(A row col)⁻¹)*A row k)=fun k=>A row k*(A row col)⁻¹:=by funext k;grind
   rw[←e];exact this
  by_cases hiq:i=q
  ·have e:qy A q row col i=fun k=>A row k*(A row col)⁻¹:=by funext k;unfold qy;rw[if_pos hiq]
   rw[e];exact hP
  ·have e:qy A q row col i=fun k=>A (sw q row i) k-A (sw q row i) col*(A row k*(A row col)⁻¹):=by funext k;unfold qy;rw[if_neg hiq]
   rw[e];exact hV _ _ _ (hA _ (swm i hi)) hP
 ·show (if i=q then col else c i)<col+1
  split
  ·omega
  ·have:=h.lt i (by omega);omega
 ·show (if i=q then col else c i)<(if j=q then col else c j)
  rw[if_neg (by omega)];split
  ·have:=h.lt i (by omega);omega
  ·exact h.mono i j hij (by omega)
 ·show qy A q row col i (if i=q then col else c i)=1
  by_cases hiq:i=q
  ·rw[if_pos hiq];unfold qy;rw[if_pos hiq];exact hdd
  ·rw[if_neg hiq];unfold qy
   rw[if_neg hiq,swl i (by omega),h.one i (by omega),hrow i (by omega)];grind
 ·show qy A q row col i (if j=q then col else c j)=0
  by_cases hjq:j=q
  ·rw[if_pos hjq];exact hcol i (by omega)
  ·rw[if_neg hjq];unfold qy
   split
   ·rw[hrow j (by omega)];grind
   ·rw[hrow j (by omega),h.zero _ j (swm i hi) (by omega) (by
     intro e;rcases Qae i q with h1 | h1
     ·rw[swl i h1] at e;omega
     ·have:=swq i h1;omega)];grind
 ·have hk':k<(if i=q then col else c i):=hk
  by_cases hiq:i=q
  ·rw[if_pos hiq] at hk'
   unfold qy;rw[if_pos hiq,h0 row hq hr k hk'];grind
  ·rw[if_neg hiq] at hk'
   have:=h.lt i (by omega);unfold qy;rw[if_neg hiq,swl i (by omega),h.before i (by omega) k hk',h0 row hq hr k (by omega)];grind
 ·by_cases hkc:k=col
  ·rw[hkc];exact hcol i (by omega)
  ·unfold qy
   rw[if_neg (by omega),h0 _ (swq i (by omega)) (swm i him) k (by omega),h0 row hq hr k (by omega)];grind
end
section
variable {T:Type} {F:Fd T}
theorem Zt {R:List (jR T)} {j:Nat} :∀k s,yn F R j k s=none → ∀i,s≤i→i<s+k→F.isZ (jC F R i j)=true
 | 0,s,_,i,h1,h2=>by omega
 | k+1,s,h,i,h1,h2=>by
  unfold yn at h;by_cases hz:F.isZ (jC F R s j)=true
  ·rw[if_pos hz] at h
   rcases Qae s i with h3 | h3
   ·exact Zt k (s+1) h i (by omega) (by omega)
   ·rw[show i=s by omega];exact hz
  ·rw[if_neg hz] at h;cases h
theorem GV {R:List (jR T)} {top i j:Nat} :∀k s,kK F R top k s=some (i,j) → ∀c,s≤c→c<j → ∀t,top≤t→t<R.length→F.isZ (jC F R t c)=true
 | 0,s,h,_,_,_,_,_,_=>by unfold kK at h;cases h
 | k+1,s,h,c,h1,h2,t,h3,h4=>by
  unfold kK at h;split at h
  ·simp only[QaT,Prod.mk.injEq] at h;omega
  ·rename_i hn
   rcases Qae s c with h5 | h5
   ·exact GV k (s+1) h c (by omega) h2 t h3 h4
   ·rw[show c=s by omega];exact Zt _ _ hn t h3 (by omega)
theorem GY {R:List (jR T)} {top:Nat} :∀k s,kK F R top k s=none → ∀c,s≤c→c<s+k → ∀t,top≤t→t<R.length→F.isZ (jC F R t c)=true
 | 0,s,_,c,h1,h2,_,_,_=>by omega
 | k+1,s,h,c,h1,h2,t,h3,h4=>by
  unfold kK at h;split at h
  ·cases h
  ·rename_i hn
   rcases Qae s c with h5 | h5
   ·exact GY k (s+1) h c (by omega) (by omega) t h3 h4
   ·rw[show c=s by omega];exact Zt _ _ hn t h3 (by omega)
theorem Of {R:List (jR T)} {row q:Nat} (hr:row<R.length) (hq:q<R.length) (i:Nat):jL (kU R row q) i=jL R (sw q row i):=by
 rw[K5 (Qaa hr) (Qaa hq)];unfold jL sw;by_cases h1:i=q
 ·subst h1
  rw[if_pos rfl,QaS (by simpa using hq),Qaa hr]
 ·rw[if_neg h1,Qbq (fun e=>h1 e.symm)]
  by_cases h2:i=row
  ·subst h2
   rw[if_pos rfl,QaS hr,Qaa hq]
  ·rw[if_neg h2,Qbq (fun e=>h2 e.symm)]
theorem Od {S:jw T} {row:Nat} (hr:row<S.rows.length) (hq:S.cols.length<S.rows.length) (i:Nat):jL (j8 row S) i=jL S.rows (sw S.cols.length row i):=by
 unfold j8;split
 ·rename_i h
  rw[←h];unfold sw;split
  ·rename_i h1;rw[h1]
  ·rfl
 ·exact Of hr hq i
theorem Zq {S:jw T} {row:Nat} :(j8 row S).length=S.rows.length:=by
 unfold j8;split
 ·rfl
 ·exact QZ _ _ _
theorem Oe {R:List (jR T)} {q:Nat} (hq:q<R.length) (L:List T) (i:Nat):jL (setRow R q L) i=if i=q then L else jL R i:=by
 by_cases h:i=q
 ·subst h
  rw[if_pos rfl,qF (qG (Qaa hq) L)]
 ·rw[if_neg h]
  unfold jL;rw[xQ (fun e=>h e.symm)]
theorem Oc {R:List (jR T)} {top o k:Nat} {P:List T} (i:Nat) (hi:i<R.length):jL (jY F top o P R k) i=if i<k∧i≠top then kY F o (jL R i) P else jL R i:=by
 unfold jL jY;rw[Qaj,Qaa hi];simp only[QaC,Qbl]
 split <;> rfl
end
section
variable {K:Type} [Lean.Grind.Field K] {T:Type} {F:Fd T} {P:T→Prop} {φ:T→K}
structure yz (F:Fd T) (P:T→Prop) (φ:T→K):Prop where
 pz:P F.z
 z0:φ F.z=0
 isZ:∀a,P a→(F.isZ a=true↔φ a=0)
 sub:∀a b,P a→P b→P (F.sub a b)∧φ (F.sub a b)=φ a-φ b
 mul:∀a b,P a→P b→P (F.mul a b)∧φ (F.mul a b)=φ a*φ b
 div:∀a b,P a→P b→φ b≠0→P (F.div a b)∧φ (F.div a b)=φ a*(φ b)⁻¹
def qH (P:T→Prop) (m n:Nat) (R:List (jR T)):Prop:=R.length=m ∧ ∀i,i<m→(jL R i).length=n ∧ ∀x∈jL R i,P x
theorem JD (H:yz F P φ) {L:List T} (h:∀x∈L,P x) (k:Nat):P (L[k]?.getD F.z):=by
 rcases Qae k L.length with h1 | h1
 ·rw[Qaa h1];exact h _ (Qay h1)
 ·rw[Qah h1];exact H.pz
theorem NO (H:yz F P φ) {L:List T} (h:∀x∈L,P x) {d:T} (hd:P d) (hd0:φ d≠0) {o:Nat} (h0:∀k,k<o→φ (L[k]?.getD F.z)=0):
  (∀x∈j3 F d o L,P x) ∧ ∀k:Nat,φ ((j3 F d o L)[k]?.getD F.z)=φ (L[k]?.getD F.z)*(φ d)⁻¹:=by
 have key:∀(k:Nat) (x:T),P x→φ x=φ (L[k]?.getD F.z)→P (if o≤k then (if F.isZ x=true then x else F.div x d) else x)∧φ (if o≤k then (if F.isZ x=true then x else F.div x d) else x)=φ (L[k]?.getD F.z)*(φ d)⁻¹:=by
  intro k x hx e;split
  ·split
   ·rename_i hz
    have:=(H.isZ x hx).1 hz;exact⟨hx,by rw[←e,this];grind⟩
   ·have:=H.div x d hx hd hd0
    exact⟨this.1,by rw[this.2,e]⟩
  ·exact⟨hx,by rw[e,h0 k (by omega)];grind⟩
 refine⟨fun x hx=> ?_,fun k=> ?_⟩
 ·obtain⟨k,hk,rfl⟩:=List.mem_mapIdx.1 hx
  exact(key k L[k] (h _ (Qay hk)) (by rw[Qaa hk];rfl)).1
 ·unfold j3
  rw[Qaj];rcases Qae k L.length with h1 | h1
  ·have:=(key k L[k] (h _ (Qay h1)) (by rw[Qaa h1];rfl)).2
   rw[Qaa h1] at this ⊢;exact this
  ·rw[Qah h1]
   show φ F.z=φ F.z*_
   rw[H.z0];grind
theorem VC (H:yz F P φ) {L Q:List T} (h:∀x∈L,P x) (hQ:∀x∈Q,P x) (hl:L.length=Q.length) {o:Nat} (h0:∀k,k<o→φ (Q[k]?.getD F.z)=0):
  (∀x∈kY F o L Q,P x) ∧ ∀k:Nat,φ ((kY F o L Q)[k]?.getD F.z)=φ (L[k]?.getD F.z)-φ (L[o]?.getD F.z)*φ (Q[k]?.getD F.z):=by
 have hLo:=JD H h o;by_cases hz:F.isZ (L[o]?.getD F.z)=true
 ·have e:kY F o L Q=L:=by unfold kY;rw[if_pos hz]
  have:=(H.isZ _ hLo).1 hz;rw[e,this];exact⟨h,fun k=>by grind⟩
 ·have e:kY F o L Q=L.mapIdx fun j y=>if o≤j then (if F.isZ (Q[j]?.getD F.z)=true then y else F.sub y (F.mul (L[o]?.getD F.z) (Q[j]?.getD F.z))) else y:=by unfold kY;rw[if_neg hz]
  have key:∀(k:Nat) (y:T),P y→φ y=φ (L[k]?.getD F.z)→P (if o≤k then (if F.isZ (Q[k]?.getD F.z)=true then y else F.sub y (F.mul (L[o]?.getD F.z) (Q[k]?.getD F.z))) else y) ∧
    φ (if o≤k then (if F.isZ (Q[k]?.getD F.z)=true then y else F.sub y (F.mul (L[o]?.getD F.z) (Q[k]?.getD F.z))) else y)=φ (L[k]?.getD F.z)-φ (L[o]?.getD F.z)*φ (Q[k]?.getD F.z):=by
   intro k y hy ey;have hq:=JD H hQ k;split
   ·split
    ·rename_i h1
     have:=(H.isZ _ hq).1 h1;exact⟨hy,by rw[ey,this];grind⟩
    ·have hm:=H.mul _ _ hLo hq
     have hs:=H.sub _ _ hy hm.1;exact⟨hs.1,by rw[hs.2,hm.2,ey]⟩
   ·exact⟨hy,by rw[ey,h0 k (by omega)];grind⟩
  rw[e];refine⟨fun x hx=> ?_,fun k=> ?_⟩
  ·obtain⟨k,hk,rfl⟩:=List.mem_mapIdx.1 hx
   exact(key k L[k] (h _ (Qay hk)) (by rw[Qaa hk];rfl)).1
  ·rw[Qaj]
   rcases Qae k L.length with h1 | h1
   ·have:=(key k L[k] (h _ (Qay h1)) (by rw[Qaa h1];rfl)).2
    rw[Qaa h1] at this ⊢;exact this
   ·rw[Qah h1,Qah (l:=Q) (by omega)]
    show φ F.z=φ F.z-_*φ F.z
    rw[H.z0];grind
theorem Wd (H:yz F P φ) {m n row col:Nat} {S:jw T} (hG:qH P m n S.rows) (hq:S.cols.length<m) (hr:row<m) (hd:φ (jC F S.rows row col)≠0) (h0:∀k,k<col→φ (jC F S.rows row k)=0):
  qH P m n (kg F row col S).rows ∧ ∀i,i<m → ∀k,φ (jC F (kg F row col S).rows i k)=qy (fun i k=>φ (jC F S.rows i k)) S.cols.length row col i k:=by
 obtain⟨hlen,hrows⟩:=hG
 have hsw:∀i,i<m→sw S.cols.length row i<m:=fun i hi=>by unfold sw;split;exact hr;split <;> omega
 have hswq:sw S.cols.length row S.cols.length=row:=by unfold sw;rw[if_pos rfl]
 have r1:∀i,jL (j8 row S) i=jL S.rows (sw S.cols.length row i):=fun i=>Od (by omega) (by omega) i
 have hpiv:elPiv F row col S=jC F S.rows row col:=by unfold elPiv jC;rw[r1,hswq]
 have r2:∀i,jL (elDiv F row col S) i=if i=S.cols.length then j3 F (jC F S.rows row col) col (jL S.rows row) else jL S.rows (sw S.cols.length row i):=by
  intro i;unfold elDiv;rw[Oe (by rw[Zq];omega),hpiv,r1,hswq,r1]
 have l2:(elDiv F row col S).length=m:=by unfold elDiv;rw[Ke,Zq,hlen]
 have hP:=NO H (hrows row hr).2 (d:=jC F S.rows row col) (JD H (hrows row hr).2 col) hd h0
 have lP:(j3 F (jC F S.rows row col) col (jL S.rows row)).length=n:=by rw[Jz];exact(hrows row hr).1
 have r3:∀i,i<m→jL (kg F row col S).rows i=if i=S.cols.length then j3 F (jC F S.rows row col) col (jL S.rows row) else kY F col (jL S.rows (sw S.cols.length row i)) (j3 F (jC F S.rows row col) col (jL S.rows row)):=by
  intro i hi
  show jL (jY F S.cols.length col (jL (elDiv F row col S) S.cols.length) (elDiv F row col S) (elDiv F row col S).length) i=_
  rw[Oc i (by omega),r2 i,r2 S.cols.length,if_pos rfl];by_cases h:i=S.cols.length
  ·rw[if_neg (fun x=>x.2 h),if_pos h,if_pos h]
  ·rw[if_pos ⟨by omega,h⟩,if_neg h,if_neg h]
 have hz:∀k,k<col→φ ((j3 F (jC F S.rows row col) col (jL S.rows row))[k]?.getD F.z)=0:=by
  intro k hk;have e:=h0 k hk;unfold jC at e;rw[hP.2,e];grind
 refine⟨⟨?_,fun i hi=> ?_⟩,fun i hi k=> ?_⟩
 ·show (jY F S.cols.length col (jL (elDiv F row col S) S.cols.length) (elDiv F row col S) (elDiv F row col S).length).length=m
  rw[VD,l2]
 ·rw[r3 i hi]
  split
  ·exact⟨lP,hP.1⟩
  ·have hs:=hrows _ (hsw i hi)
   exact⟨by rw[Xv];exact hs.1,(VC H hs.2 hP.1 (by rw[hs.1,lP]) hz).1⟩
 ·unfold jC
  rw[r3 i hi];unfold qy;by_cases h:i=S.cols.length
  ·rw[if_pos h,if_pos h,hP.2 k];rfl
  ·rw[if_neg h,if_neg h]
   have hs:=hrows _ (hsw i hi);rw[(VC H hs.2 hP.1 (by rw[hs.1,lP]) hz).2 k,hP.2 k];rfl
end
section
variable {K:Type} [Lean.Grind.Field K] {m n:Nat} {M A A':Nat→Nat→K} {q fr:Nat} {c c':Nat→Nat}
theorem qV.congr (h:qV m n M A q fr c) (hA:∀i,i<m → ∀k,A' i k=A i k) (hc:∀i,i<q→c' i=c i):qV m n M A' q fr c':=by
 have hq:=h.qm;refine⟨fun v=> ?_,fun V hV hM i hi=> ?_,fun i hi=> ?_,fun i j hij hj=> ?_,fun i hi=> ?_,fun i j hi hj hne=> ?_,fun i hi k hk=> ?_,fun i hi him k hk=> ?_,hq⟩
 ·rw[←h.ker v]
  constructor
  ·intro g i hi
   rw[←g i hi];exact Jj n (fun k _=>by rw[hA i hi])
  ·intro g i hi
   rw[←g i hi];exact Jj n (fun k _=>by rw[hA i hi])
 ·rw[show A' i=A i from funext (hA i hi)];exact h.spc V hV hM i hi
 ·rw[hc i hi];exact h.lt i hi
 ·rw[hc i (by omega),hc j hj];exact h.mono i j hij hj
 ·rw[hc i hi,hA i (by omega)];exact h.one i hi
 ·rw[hc j hj,hA i hi];exact h.zero i j hi hj hne
 ·rw[hc i hi] at hk;rw[hA i (by omega)];exact h.before i hi k hk
 ·rw[hA i him];exact h.rest i hi him k hk
theorem qV.start (M:Nat→Nat→K) (c:Nat→Nat):qV m n M M 0 0 c:=
 ⟨fun _=>Iff.rfl,fun _ _ h=>h,fun _ h=>by omega,fun _ _ _ h=>by omega,fun _ h=>by omega,fun _ _ _ h=>by omega,fun _ h=>by omega,fun _ _ _ _ h=>by omega,by omega⟩
theorem qV.whole (h:qV m n M A q fr c) (hf:fr≤n) (h0:∀i,q≤i→i<m → ∀k,fr≤k→k<n→A i k=0):qV m n M A q n c:=
 ⟨h.ker,h.spc,fun i hi=>by have:=h.lt i hi;omega,h.mono,h.one,h.zero,h.before,fun i hi him k hk=>by
  rcases Qae k fr with h1 | h1
  ·exact h.rest i hi him k h1
  ·exact h0 i hi him k h1 hk,h.qm⟩
theorem qV.kron (h:qV m n M A q n c):yY q n c A:=
 ⟨h.lt,h.one,fun i j hi hj hne=>h.zero i j (by have:=h.qm;omega) hj hne⟩
theorem qV.kerTop (h:qV m n M A q n c) (v:Nat→K):kn q n A v↔kn m n M v:=by
 rw[←h.ker v];constructor
 ·intro g i hi
  rcases Qae i q with h1 | h1
  ·exact g i h1
  ·exact Yv n (fun k hk=>by rw[h.rest i h1 hi k hk];grind)
 ·intro g i hi
  exact g i (by have:=h.qm;omega)
variable {T:Type} {F:Fd T} {P:T→Prop} {φ:T→K}
def xp (S:jw T) (i:Nat):Nat:=S.cols[i]?.getD 0
def xO (F:Fd T) (φ:T→K) (R:List (jR T)) (i k:Nat):K:=φ (jC F R i k)
theorem Dk {n k fr:Nat} {S:jw T} (h:kK F S.rows S.cols.length (n-fr) fr=none):jy F n (k+1) fr S=S:=by
 unfold jy;rw[h]
theorem Dm {n k fr row col:Nat} {S:jw T} (h:kK F S.rows S.cols.length (n-fr) fr=some (row,col)):jy F n (k+1) fr S=jy F n k (col+1) (kg F row col S):=by
 conv=>lhs;unfold jy
 rw[h]
theorem V9 (H:yz F P φ):∀(k fr:Nat) (S:jw T),qH P m n S.rows→S.cols.length+k=m→fr≤n→qV m n M (xO F φ S.rows) S.cols.length fr (xp S) →
  qH P m n (jy F n k fr S).rows∧qV m n M (xO F φ (jy F n k fr S).rows) (jy F n k fr S).cols.length n (xp (jy F n k fr S))
 | 0,fr,S,hG,hk,hf,hR=>⟨hG,hR.whole hf (fun i h1 h2=>by omega)⟩
 | k+1,fr,S,hG,hk,hf,hR=>by
  have hP:∀i,i<m → ∀j,P (jC F S.rows i j):=fun i hi j=>JD H (hG.2 i hi).2 j
  cases hp:kK F S.rows S.cols.length (n-fr) fr with
  | none=>
   rw[Dk hp];refine⟨hG,hR.whole hf (fun i h1 h2 j h3 h4=> ?_)⟩;exact(H.isZ _ (hP i h2 j)).1 (GY _ _ hp j h3 (by omega) i h1 (by rw[hG.1];exact h2))
  | some rc=>
   obtain⟨row,col⟩:=rc;obtain⟨b1,b2,b3,b4,b5⟩:=Ue _ _ hp;have hlen:=hG.1
   have hz:∀i,S.cols.length≤i→i<m → ∀j,j<col→xO F φ S.rows i j=0:=by
    intro i h1 h2 j hj;rcases Qae j fr with h3 | h3
    ·exact hR.rest i h1 h2 j h3
    ·exact(H.isZ _ (hP i h2 j)).1 (GV _ _ hp j h3 hj i h1 (by omega))
   have hd:xO F φ S.rows row col≠0:=fun e=>by
    have:=(H.isZ _ (hP row (by omega) col)).2 e;rw[b5] at this;cases this
   have hs:=Wd H hG (by omega:S.cols.length<m) (by omega:row<m) hd (fun j hj=>hz row b3 (by omega) j hj);have hR2:=hR.step b3 (by omega) b1 hd hz
   have hl2:(kg F row col S).cols.length=S.cols.length+1:=by show (S.cols++[col]).length=_;simp
   rw[Dm hp];refine V9 H k (col+1) (kg F row col S) hs.1 (by omega) (by omega) ?_;rw[hl2];refine hR2.congr (fun i hi j=>hs.2 i hi j) (fun i hi=> ?_)
   show (S.cols++[col])[i]?.getD 0=if i=S.cols.length then col else S.cols[i]?.getD 0
   by_cases h:i=S.cols.length
   ·rw[if_pos h,h,QaH (Nat.le_refl _)];simp
   ·rw[if_neg h,QaB (by omega)]
end
def xL (cols:List Nat) (n:Nat):Nat→List Nat
 | 0=>[]
 | k+1=>xL cols n k++(if cols.contains (n-1-k)=true then [] else [n-1-k])
theorem Zz {cols:List Nat} {n:Nat} :∀k,k≤n → ∀f,f∈xL cols n k↔(n-k≤f∧f<n∧f ∉ cols)
 | 0,_,f=>by
  show f∈[]↔_
  constructor
  ·intro h;cases h
  ·intro h;omega
 | k+1,hk,f=>by
  show f∈xL cols n k++(if cols.contains (n-1-k)=true then [] else [n-1-k])↔_
  rw[Qby,Zz k (by omega)];by_cases hc:n-1-k∈cols
  ·rw[if_pos (by simpa using hc)]
   constructor
   ·rintro (h | h)
    ·exact⟨by omega,h.2⟩
    ·cases h
   ·intro h
    have:f≠n-1-k:=fun e=>h.2.2 (by rw[e];exact hc)
    exact .inl ⟨by omega,h.2⟩
  ·rw[if_neg (by simpa using hc),Qb3]
   constructor
   ·rintro (h | h)
    ·exact⟨by omega,h.2⟩
    ·exact⟨by omega,by omega,by rw[h];exact hc⟩
   ·intro h
    by_cases e:f=n-1-k
    ·exact .inr e
    ·exact .inl ⟨by omega,h.2⟩
theorem Wq {cols:List Nat} {n:Nat} :∀k,k≤n→(xL cols n k).Pairwise (fun a b=>b<a)
 | 0,_=> .nil
 | k+1,hk=>by
  show (xL cols n k++(if cols.contains (n-1-k)=true then [] else [n-1-k])).Pairwise _
  refine List.pairwise_append.2 ⟨Wq k (by omega),by split <;> simp,fun a ha b hb=> ?_⟩;have:=(Zz k (by omega) a).1 ha;split at hb
  ·cases hb
  ·rw[Qb3] at hb;omega
section
variable {K:Type} [Lean.Grind.Field K] {T:Type} {F:Fd T} {P:T→Prop} {φ:T→K} {m n:Nat}
theorem GB (F:Fd T) (zero one:T) (n:Nat) (S:jw T):∀k,nsBasis F zero one n S k=(xL S.cols n k).map (x8 F zero one n S)
 | 0=>rfl
 | k+1=>by
  show nsBasis F zero one n S k++_=(xL S.cols n k++_).map _
  rw[GB F zero one n S k,QaQ]
  split <;> rfl
theorem Z6 (H:yz F P φ) {S:jw T} (hG:qH P m n S.rows) {zero one:T} (hz:P zero) (hz0:φ zero=0) (h1:φ one=1) (col:Nat):∀k,k≤m→k≤S.cols.length → ∀x,x<n →
  φ ((nsSet F zero S col k ((List.replicate n zero).set col one))[x]?.getD F.z)=qD (xp S) (xO F φ S.rows) col k x
 | 0,_,_,x,hx=>by
  show φ (((List.replicate n zero).set col one)[x]?.getD F.z)=if x=col then 1 else 0
  by_cases h:x=col
  ·subst h
   rw[if_pos rfl,QaS (by simpa using hx)];exact h1
  ·rw[if_neg h,Qbq (fun e=>h e.symm),Qaa (by simpa using hx)]
   simpa using hz0
 | k+1,hm,hk,x,hx=>by
  rw[Jd]
  show _=if x=xp S k then -(xO F φ S.rows k col) else qD (xp S) (xO F φ S.rows) col k x
  have hl:(nsSet F zero S col k ((List.replicate n zero).set col one)).length=n:=by rw[yL];simp
  by_cases h:x=xp S k
  ·rw[if_pos h,h]
   show φ (((nsSet F zero S col k ((List.replicate n zero).set col one)).set (xp S k) _)[xp S k]?.getD F.z)=_
   rw[QaS (by rw[hl,←h];exact hx)];have:=H.sub zero (jC F S.rows k col) hz (JD H (hG.2 k (by omega)).2 col)
   show φ (F.sub zero (jC F S.rows k col)) = -φ (jC F S.rows k col)
   rw[this.2,hz0];grind
  ·rw[if_neg h]
   show φ (((nsSet F zero S col k ((List.replicate n zero).set col one)).set (xp S k) _)[x]?.getD F.z)=_
   rw[Qbq (fun e=>h e.symm)];exact Z6 H hG hz hz0 h1 col k (by omega) (by omega) x hx
end
