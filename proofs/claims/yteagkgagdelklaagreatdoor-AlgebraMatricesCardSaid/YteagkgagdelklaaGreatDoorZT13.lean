/- Plain mathematics: the two ways to the reduced basis of the null space give the same numbers. -/
import Derived.Test.YteagkgagdelklaaGreatDoorZT12
set_option maxRecDepth 100000
set_option maxHeartbeats 4000000
namespace Go.Proofs.YteagkgagdelklaaGreatDoor
theorem yo {l:List Nat} {i:Nat} (hi:i<l.length):l[i]?.getD 0=l[i]:=by rw[Qaa hi];rfl
section
variable {K:Type} [Lean.Grind.Field K] {T:Type} {F:Fd T} {P:T→Prop} {φ:T→K} {m n:Nat}
theorem Jp.of_list {S:jw T} {l:List Nat} (hm:∀f,f∈l↔(f<n∧f ∉ S.cols)) (hp:l.Pairwise (fun a b=>a≠b)):Jp n S.cols.length (xp S) l.length (fun i=>l[i]?.getD 0):=by
 refine⟨fun i hi=> ?_,fun i hi j hj e=> ?_,fun f hf hfree=> ?_,fun i j hi hj hne e=> ?_⟩
 ·show l[i]?.getD 0<n
  rw[yo hi];exact((hm _).1 (Qay hi)).1
 ·have e1:l[i]?.getD 0=S.cols[j]?.getD 0:=e
  rw[yo hi,yo hj] at e1;exact((hm _).1 (Qay hi)).2 (by rw[e1];exact Qay hj)
 ·have:f∈l:=(hm f).2 ⟨hf,fun h=>by
   obtain⟨j,hj,e⟩:=List.mem_iff_getElem.1 h
   exact hfree j hj (by show f=S.cols[j]?.getD 0;rw[yo hj,e])⟩
  obtain⟨i,hi,e⟩:=List.mem_iff_getElem.1 this;exact⟨i,hi,by show l[i]?.getD 0=f;rw[yo hi,e]⟩
 ·have e1:l[i]?.getD 0=l[j]?.getD 0:=e
  rw[yo hi,yo hj] at e1;rcases Qae i j with h | h
  ·exact List.pairwise_iff_getElem.1 hp i j hi hj h e1
  ·exact List.pairwise_iff_getElem.1 hp j i hj hi (by omega) e1.symm
theorem kn.mat {M M':Nat→Nat→K} (h:∀i,i<m → ∀k,k<n→M i k=M' i k) (v:Nat→K):kn m n M v↔kn m n M' v:=by
 constructor
 ·intro g i hi
  rw[←g i hi];exact Jj n (fun k hk=>by rw[h i hi k hk])
 ·intro g i hi
  rw[←g i hi];exact Jj n (fun k hk=>by rw[h i hi k hk])
def jU (F:Fd T) (n m:Nat) (R:List (jR T)):jw T:=jy F n m 0 ⟨R,[],[],false⟩
theorem J2 (H:yz F P φ) {R:List (jR T)} (hG:qH P m n R):qH P m n (jU F n m R).rows∧qV m n (xO F φ R) (xO F φ (jU F n m R).rows) (jU F n m R).cols.length n (xp (jU F n m R)):=
 V9 H m 0 ⟨R,[],[],false⟩ hG (by simp) (by omega) (qV.start _ _)
theorem CB (H:yz F P φ) {R Ro Rr:List (jR T)} (hG:qH P m n R) {fa:List Nat} (hfa:∀f,f∈fa↔(f<n∧f ∉ (jU F n m R).cols)) (hfp:fa.Pairwise (fun a b=>a≠b))
  (hGo:qH P fa.length n Ro) (ho:∀i,i<fa.length → ∀x,x<n→φ (jC F Ro i x)=qD (xp (jU F n m R)) (xO F φ (jU F n m R).rows) (fa[i]?.getD 0) (jU F n m R).cols.length x)
  (hGr:qH P m n Rr) (hr:∀i,i<m → ∀x,x<n→φ (jC F Rr i x)=φ (jC F R i (n-1-x))):
  (jU F n fa.length Ro).cols.length=(xL (jU F n m Rr).cols n n).length ∧
  ∀i,i<(jU F n fa.length Ro).cols.length → ∀x,x<n→φ (jC F (jU F n fa.length Ro).rows i x)=qD (xp (jU F n m Rr)) (xO F φ (jU F n m Rr).rows) ((xL (jU F n m Rr).cols n n)[i]?.getD 0) (jU F n m Rr).cols.length (n-1-x):=by
 obtain⟨-,D1⟩:=J2 H hG;obtain⟨-,D2⟩:=J2 H hGo;obtain⟨-,D3⟩:=J2 H hGr;have F1:=Jp.of_list hfa hfp
 have hmem3:∀f,f∈xL (jU F n m Rr).cols n n↔(f<n∧f ∉ (jU F n m Rr).cols):=fun f=>by
  rw[Zz n (Nat.le_refl _)];exact⟨fun h=>h.2,fun h=>⟨by omega,h⟩⟩
 have hdec:=Wq (cols:=(jU F n m Rr).cols) n (Nat.le_refl n);have F3:=Jp.of_list hmem3 (hdec.imp (fun {a b} h=>by omega))
 have hmo:∀i,i<fa.length→kn m n (xO F φ R) (xO F φ Ro i):=fun i hi=>
  ((D1.kerTop _).1 (Xm D1.kron (F1.lt i hi) (F1.free i hi))).ext (fun k hk=>ho i hi k hk)
 have R1:=Om D1.kron D1.kerTop F1 D2.kron D2.mono D2.before (fun x hx=>(kn.mat (fun i hi k hk=>ho i hi k hk) x).1 ((D2.kerTop x).1 hx)) (fun i hi=>D2.spc _ (kn.spc _ _ _) hmo i (by have:=D2.qm;omega))
 have R2:=Ol (M:=xO F φ R) D3.kron (fun v=>(D3.kerTop v).trans (kn.mat (fun i hi k hk=>hr i hi k hk) v)) D3.before F3 (fun i j hij hj=>by
  show (xL (jU F n m Rr).cols n n)[j]?.getD 0<(xL (jU F n m Rr).cols n n)[i]?.getD 0
  rw[yo hj,yo (by omega)]
  exact List.pairwise_iff_getElem.1 hdec i j (by omega) hj hij)
 obtain⟨e1,-,e3⟩:=R1.same (kn.spc _ _ _) R2;exact⟨e1,e3⟩
end
end Go.Proofs.YteagkgagdelklaaGreatDoor
namespace Go.Proofs.YteagkgagdelklaaGreatDoor
open Go.RowKit Go.Lib
theorem UL {s:ByteArray} {l:List UInt8} (h:s.data.toList=l) (a b:Nat):(s.extract a b).data.toList=(l.take b).drop a:=by
 rw[←h];simp[List.drop_take]
def yc (l:List UInt8):List UInt8:=l.take (jo l)
def zk (l:List UInt8):List UInt8:=if jo l=l.length then [49] else l.drop (jo l+1)
def qr (l:List UInt8):Int:=if l=[48] then 0 else if l[0]? =some 45 then -1 else 1
def xS (l:List UInt8):List UInt8:=if qr l<0 then l.drop 1 else l
def xF (l:List UInt8):Int:=if 600<(xS (yc l)).length∨600<(zk l).length then 4 else 0
def XS (l:List UInt8) (w:World) (e:Ending) (w':World):Prop:=e = .returned (.string ⟨l.toArray⟩)∧w=w'
theorem QX (s:ByteArray):s=⟨s.data.toList.toArray⟩:=by cases s;simp
theorem LO (l:List UInt8) (w:World) (hl:l.length≤4000000000000000000):Calls Tryz.prog 133 #[.string ⟨l.toArray⟩] w (XS (yc l) w):=by
 have SL:=hid (Jh ⟨l.toArray⟩ w (by simp[ByteArray.size];omega))
 obtain⟨s,hs⟩:∃s:ByteArray,s=⟨l.toArray⟩:=⟨_,rfl⟩
 have hsl:s.data.toList=l:=by rw[hs]
 have hsz:s.size=l.length:=by rw[hs];simp[ByteArray.size]
 rw[←hs] at SL ⊢;rw[hsl] at SL;have hk:=K3 l
 have HE:Hid (s.extract 0 (jo l)=⟨(yc l).toArray⟩):=hid (by
  have h:=UL (a:=0) (b:=jo l) hsl
  rw[QX (s.extract 0 (jo l)),h];unfold yc;simp)
 clear hs hsl
 have hkI:((jo l:Nat):Int)≤(s.size:Int):=by omega
 have hsI:(s.size:Int)≤4000000000000000000:=by omega
 clear hk hsz hl;generalize jo l=k at *;go_enter Tryz.func133,Tryz.ntmps133
 go_wp2_with fail
 refine SL.out.mono ?_;rintro e w1 ⟨rfl,rfl⟩
 go_wp2
 go_ret;exact⟨by rw[←HE.out];rfl,rfl⟩
theorem LI (l:List UInt8) (w:World) (hl:l.length≤4000000000000000000):Calls Tryz.prog 134 #[.string ⟨l.toArray⟩] w (XS (zk l) w):=by
 have SL:=hid (Jh ⟨l.toArray⟩ w (by simp[ByteArray.size];omega))
 obtain⟨s,hs⟩:∃s:ByteArray,s=⟨l.toArray⟩:=⟨_,rfl⟩
 have hsl:s.data.toList=l:=by rw[hs]
 have hsz:s.size=l.length:=by rw[hs];simp[ByteArray.size]
 rw[←hs] at SL ⊢;rw[hsl] at SL;have hk:=K3 l;by_cases h:jo l=l.length
 ·have HD:Hid (zk l=[49]):=hid (by unfold zk;rw[if_pos h])
  have hb:((jo l:Nat):Int)==(s.size:Int):=by rw[h,hsz];simp
  clear hs hsl hsz h hk;generalize jo l=k at *;go_enter Tryz.func134,Tryz.ntmps134
  go_wp2_with fail
  refine SL.out.mono ?_;rintro e w1 ⟨rfl,rfl⟩
  go_wp2
  go_ret;exact⟨by rw[HD.out];rfl,rfl⟩
 ·have hb:(((jo l:Nat):Int)==(s.size:Int))=false:=by simpa using (by omega:¬((jo l:Nat):Int)=(s.size:Int))
  have hkI:((jo l:Nat):Int)+1≤(s.size:Int):=by omega
  have hsI:(s.size:Int)≤4000000000000000000:=by omega
  have HE:Hid (s.extract (jo l+1) s.size=⟨(zk l).toArray⟩):=hid (by
   have h1:=UL (a:=jo l+1) (b:=s.size) hsl
   rw[QX (s.extract (jo l+1) s.size),h1];unfold zk;rw[if_neg h,hsz,Qad (Nat.le_refl _)])
  clear hs hsl hk hsz hl h;generalize jo l=k at *;go_enter Tryz.func134,Tryz.ntmps134
  go_wp2_with fail
  refine SL.out.mono ?_;rintro e w1 ⟨rfl,rfl⟩
  go_wp2
  go_ret;exact⟨by rw[←HE.out];rfl,rfl⟩
def WF (n:Int) (w:World) (e:Ending) (w':World):Prop:=e = .returned (.int .i64 n)∧w=w'
theorem Ut (l:List UInt8) (w:World) (hl:l.length≤4000000000000000000):Calls Tryz.prog 95 #[.string ⟨l.toArray⟩] w (WF (qr l) w):=by
 obtain⟨s,hs⟩:∃s:ByteArray,s=⟨l.toArray⟩:=⟨_,rfl⟩
 have hsl:s.data.toList=l:=by rw[hs]
 have hsz:s.size=l.length:=by rw[hs];simp[ByteArray.size]
 rw[←hs];by_cases h:l=[48]
 ·have HS:Hid (qr l=0):=hid (by unfold qr;rw[if_pos h])
  have hz:(s.toList==[48])=true:=by rw[ByteArray.toList_eq,hsl,h];rfl
  clear hs hsl hsz h;go_enter Tryz.func95,Tryz.ntmps95
  go_wp2
  go_ret;exact⟨by rw[HS.out];rfl,rfl⟩
 ·have hz:(s.toList==[48])=false:=by rw[ByteArray.toList_eq,hsl];simpa using h
  by_cases h0:s.size=0
  ·have HS:Hid (qr l=1):=hid (by
    have:l=[]:=List.length_eq_zero_iff.1 (by omega)
    subst this;unfold qr;rw[if_neg (by simp),if_neg (by simp)])
   have hI:(0<s.size)=False:=eq_false (by omega);clear hs hsl hsz h h0;go_enter Tryz.func95,Tryz.ntmps95
   go_wp2
   go_ret;exact⟨by rw[HS.out];rfl,rfl⟩
  ·have h1:0<s.size:=by omega
   have hI:(0:Int)<(s.size:Int):=by omega
   have hg:=xI s 0 h1;rw[hsl] at hg;by_cases hc:l[0]? =some 45
   ·have HS:Hid (qr l = -1):=hid (by unfold qr;rw[if_neg h,if_pos hc])
    have hcc:(((s[0]).toNat:Int)==45)=true:=by
     rw[hc] at hg;have:s[0]=45:=(QaE hg).symm;rw[this];rfl
    clear hs hsl hsz h h0 hc hg;go_enter Tryz.func95,Tryz.ntmps95
    go_wp2
    go_ret;exact⟨by rw[HS.out];rfl,rfl⟩
   ·have HS:Hid (qr l=1):=hid (by unfold qr;rw[if_neg h,if_neg hc])
    have hcc:(((s[0]).toNat:Int)==45)=false:=by
     simp only[beq_eq_false_iff_ne];intro e;apply hc;rw[hg]
     have:(s[0]).toNat=45:=by omega
     congr 1
     exact UInt8.toNat_inj.1 this
    clear hs hsl hsz h h0 hc hg;go_enter Tryz.func95,Tryz.ntmps95
    go_wp2
    go_ret;exact⟨by rw[HS.out];rfl,rfl⟩
theorem Pj {l:List UInt8} (h:qr l<0):0<l.length:=by
 unfold qr at h;split at h
 ·omega
 ·split at h
  ·rename_i hc
   rcases QaA l.length with h0 | h0
   ·rw[List.length_eq_zero_iff.1 h0] at hc;simp at hc
   ·exact h0
  ·omega
theorem Ly (l:List UInt8) (w:World) (hl:l.length≤4000000000000000000):Calls Tryz.prog 132 #[.string ⟨l.toArray⟩] w (XS (xS l) w):=by
 have SG:=hid (Ut l w hl)
 obtain⟨s,hs⟩:∃s:ByteArray,s=⟨l.toArray⟩:=⟨_,rfl⟩
 have hsl:s.data.toList=l:=by rw[hs]
 have hsz:s.size=l.length:=by rw[hs];simp[ByteArray.size]
 rw[←hs] at SG ⊢;by_cases h:qr l<0
 ·have hp:=Pj h
  have HE:Hid (s.extract 1 s.size=⟨(xS l).toArray⟩):=hid (by
   have h1:=UL (a:=1) (b:=s.size) hsl
   rw[QX (s.extract 1 s.size),h1];unfold xS;rw[if_pos h,hsz,Qad (Nat.le_refl _)])
  have hI:(1:Int)≤(s.size:Int):=by omega
  have hsI:(s.size:Int)≤4000000000000000000:=by omega
  clear hs hsl hsz hp hl;generalize qr l=g at *;go_enter Tryz.func132,Tryz.ntmps132
  go_wp2_with fail
  refine SG.out.mono ?_;rintro e w1 ⟨rfl,rfl⟩
  go_wp2
  go_ret;exact⟨by rw[←HE.out];rfl,rfl⟩
 ·have HE:Hid (s=⟨(xS l).toArray⟩):=hid (by unfold xS;rw[if_neg h];exact hs)
  have hI:(qr l<0)=False:=eq_false h;clear hs hsl hsz hl h;generalize qr l=g at *;go_enter Tryz.func132,Tryz.ntmps132
  go_wp2_with fail
  refine SG.out.mono ?_;rintro e w1 ⟨rfl,rfl⟩
  go_wp2
  go_ret;exact⟨by rw[←HE.out];rfl,rfl⟩
theorem Ex (l:List UInt8):(yc l).length≤l.length:=by unfold yc;rw[Qak];omega
theorem Ph (l:List UInt8):(xS l).length≤l.length:=by unfold xS;split <;> simp
theorem Eg (l:List UInt8):(⟨l.toArray⟩:ByteArray).size=l.length:=by simp[ByteArray.size]
theorem LN (l:List UInt8) (w:World) (hl:l.length≤4000000000000000000):Calls Tryz.prog 89 #[.string ⟨l.toArray⟩] w (WF (xF l) w):=by
 have NM:=hid (LO l w hl);have AB:=hid (Ly (yc l) w (by have:=Ex l;omega));have DN:=hid (LI l w hl)
 have ha:(xS (yc l)).length≤4000000000000000000:=by have:=Ex l;have:=Ph (yc l);omega
 have HL:Hid (∀(a b:Prop) [Decidable a] [Decidable b],(a↔600<(xS (yc l)).length)→(b↔600<(zk l).length)→(a∨b→xF l=4)∧(¬a → ¬b→xF l=0)):=hid (fun a b _ _ h1 h2=>by
  unfold xF
  refine⟨fun h=>by rw[if_pos];rw[←h1,←h2];exact h,fun h3 h4=>by rw[if_neg];rw[←h1,←h2];rintro (h | h);exact h3 h;exact h4 h⟩)
 clear hl;have s1:=Eg (xS (yc l));have s2:=Eg (zk l)
 obtain⟨A,hA⟩:∃A:ByteArray,A=⟨(xS (yc l)).toArray⟩:=⟨_,rfl⟩
 obtain⟨D,hD⟩:∃D:ByteArray,D=⟨(zk l).toArray⟩:=⟨_,rfl⟩
 unfold XS at AB DN;rw[←hA] at AB s1;rw[←hD] at DN s2;rw[←s1] at HL ha;rw[←s2] at HL;clear hA hD s1 s2;have HR:Hid ((600<A.size→xF l=4)∧(¬600<A.size→600<D.size→xF l=4)∧(¬600<A.size → ¬600<D.size→xF l=0)):=hid ⟨fun h=>(HL.out _ _ Iff.rfl Iff.rfl).1 (.inl h),fun _ h=>(HL.out _ _ Iff.rfl Iff.rfl).1 (.inr h),fun h1 h2=>(HL.out _ _ Iff.rfl Iff.rfl).2 h1 h2⟩;clear HL;generalize xF l=g at *;by_cases h1:600<A.size
 ·have hI:(600:Int)<(A.size:Int):=by omega
  have HG:=hid (HR.out.1 h1);clear h1 HR;go_enter Tryz.func89,Tryz.ntmps89
  go_wp2_with fail
  refine NM.out.mono ?_;rintro e w1 ⟨rfl,rfl⟩
  go_wp2_with fail
  refine AB.out.mono ?_;rintro e w1 ⟨rfl,rfl⟩
  go_wp2
  go_ret;exact⟨by rw[HG.out];rfl,rfl⟩
 ·have hI:decide ((600:Int)<(A.size:Int))=false:=Qat (by omega)
  by_cases h2:600<D.size
  ·have hJ:(600:Int)<(D.size:Int):=by omega
   have HG:=hid (HR.out.2.1 h1 h2);clear h1 h2 HR;go_enter Tryz.func89,Tryz.ntmps89
   go_wp2_with fail
   refine NM.out.mono ?_;rintro e w1 ⟨rfl,rfl⟩
   go_wp2_with fail
   refine AB.out.mono ?_;rintro e w1 ⟨rfl,rfl⟩
   go_wp2_with fail
   refine DN.out.mono ?_;rintro e w1 ⟨rfl,rfl⟩
   go_wp2
   go_ret;exact⟨by rw[HG.out];rfl,rfl⟩
  ·have hJ:decide ((600:Int)<(D.size:Int))=false:=Qat (by omega)
   have HG:=hid (HR.out.2.2 h1 h2);clear h1 h2 HR;go_enter Tryz.func89,Tryz.ntmps89
   go_wp2_with fail
   refine NM.out.mono ?_;rintro e w1 ⟨rfl,rfl⟩
   go_wp2_with fail
   refine AB.out.mono ?_;rintro e w1 ⟨rfl,rfl⟩
   go_wp2_with fail
   refine DN.out.mono ?_;rintro e w1 ⟨rfl,rfl⟩
   go_wp2
   go_ret;exact⟨by rw[HG.out];rfl,rfl⟩
def xB {T:Type} (f:T→T) (o k:Nat) (L:List T):List T:=L.mapIdx fun j x=>if o≤j∧j<o+k then f x else x
section
variable {T:Type} (f:T→T) (o k:Nat) (L:List T)
theorem ZH:(xB f o k L).length=L.length:=by simp[xB]
theorem BG:xB f o 0 L=L:=by
 apply Qaw;intro j;simp only[xB,Qaj,Qbf]
 cases L[j]? with
 | none=>rfl
 | some x=>simp only[QaC];rw[if_neg (by omega)]
theorem W9:(xB f o k L)[o+k]? =L[o+k]? :=by
 simp only[xB,Qaj,Qb8,and_false,Qcf];cases L[o+k]? <;> simp
theorem Ga (x:T) (hx:L[o+k]? =some x):(xB f o k L).set (o+k) (f x)=xB f o (k+1) L:=by
 have h:=(List.getElem?_eq_some_iff.1 hx).1;apply Qaw;intro j;rw[QbG];simp only[xB,Qaj,List.length_mapIdx];by_cases hj:o+k=j
 ·subst hj;rw[if_pos rfl,if_pos h,hx];simp
 ·rw[if_neg hj]
  rcases Qae j L.length with hl | hl
  ·rw[Qaa hl]
   simp only[QaC,QaT];by_cases h2:o≤j∧j<o+k
   ·rw[if_pos h2,if_pos (by omega)]
   ·rw[if_neg h2,if_neg (by omega)]
  ·rw[Qah hl];rfl
theorem BF (x:T) (hx:L[o+k]? =some x) (hf:f x=x):xB f o (k+1) L=xB f o k L:=by
 rw[←Ga f o k L x hx,hf];apply Qaw;intro j;rw[QbG,ZH];by_cases hj:o+k=j
 ·subst hj;rw[W9,hx];simp[(List.getElem?_eq_some_iff.1 hx).1]
 ·rw[if_neg hj]
end
def jc:Fd Rat:=⟨0,fun q=>decide (q=0),fun a b=>a-b,fun a b=>a*b,fun a b=>a/b⟩
def zE (d x:Rat):Rat:=if x=0 then x else x/d
theorem NN (d:Rat) (o n:Nat) (L:List Rat) (h:o+n=L.length):xB (zE d) o n L=j3 jc d o L:=by
 unfold xB j3;apply Qaw;intro j;simp only[Qaj];rcases Qae j L.length with hl | hl
 ·rw[Qaa hl]
  simp only[QaC,QaT];by_cases h2:o≤j
  ·rw[if_pos ⟨h2,by omega⟩,if_pos h2];simp[zE,jc]
  ·rw[if_neg (by omega),if_neg h2]
 ·rw[Qah hl];rfl
theorem FS (q:Rat):(qS q==0)=decide (q=0):=by
 unfold qS;by_cases h:q=0
 ·subst h;decide
 ·have:q.num≠0:=fun e=>h (Rat.num_eq_zero.1 e)
  rw[if_neg this,Qat h]
  split <;> decide
theorem Qw (v:Value) (q:Rat) (w:World) (h:Rt w v q):Calls Tryz.prog 249 #[.agg #[],v] w fun e w'=>e = .returned (.bool (decide (q=0)))∧Below w.heap.size w w':=
 (On v q w h).mono fun e w' h=>⟨by rw[h.1,FS],h.2⟩
theorem Uk (w:World):(method 397 77 (.agg #[]) "talisman/algebra.isZero").run Tryz.prog w = .ok (249,.agg #[]) w:=by kernel_rfl
theorem FB (w:World):(method 397 77 (.agg #[]) "talisman/algebra.over").run Tryz.prog w = .ok (252,.agg #[]) w:=by kernel_rfl
theorem H6 (w:World):(method 397 77 (.agg #[]) "talisman/algebra.times").run Tryz.prog w = .ok (253,.agg #[]) w:=by kernel_rfl
theorem H3 (w:World):(method 397 77 (.agg #[]) "talisman/algebra.minus").run Tryz.prog w = .ok (250,.agg #[]) w:=by kernel_rfl
theorem Uj (w:World):(method 397 77 (.agg #[]) "talisman/algebra.of").run Tryz.prog w = .ok (251,.agg #[]) w:=by kernel_rfl
theorem NX (dv:Value) (d:Rat) (w:World) (b o n c:Nat) (es:List El) (L:List Rat) (hO:jq w b es L) (hn:o+n=L.length) (hc1:n≤c) (hc2:c≤9223372036854775807)
  (hd:Rt w dv d) (hd0:d≠0) (hdf:kI d) (hL:∀x∈L,kI x):
  Calls Tryz.prog 84 #[.iface 77 (.agg #[]),.slice (some ⟨b,o*3,none⟩) n c,dv] w fun e w'=>
   e = .returned (.tuple #[])∧(∃es',jq w' b es' (xB (zE d) o n L))∧jk b w w':=by
 have hZ:=Uk;have hV:=FB;have HO:=hid hO;have HN:=hid hn;have HL:=hid hL;have HDF:=hid hdf;have HD0:=hid hd0;obtain⟨s,A1,n1,c1,A2,n2,c2,hdv⟩:=hd.shape;have HD:=hid hd;clear hO hn hL hd hdf hd0;subst hdv;go_enter Tryz.func84,Tryz.ntmps84
 go_wp2_with fail
 go_loopg [10] n (fun gh i wr=>∃k:Nat,i = .int .i64 k∧k+gh=n∧Hid (∃es',jq wr b es' (xB (zE d) o k L))∧Hid (jk b w wr)∧Hid (ja wr w.heap.size 69 [.bool s,.slice A1 n1 c1,.slice A2 n2 c2])∧Hid (Rt wr (.agg #[.bool s,.slice A1 n1 c1,.slice A2 n2 c2]) d))
 case atStart=>
  have hal:Below w.heap.size w (w.alloc (.cells #[.bool s,.slice A1 n1 c1,.slice A2 n2 c2] 69)):=(Below.refl _ _).alloc (Nat.le_refl _) _;exact⟨0,rfl,by omega,hid ⟨es,by rw[BG];exact HO.out.below hal⟩,hid (jk.of_below hal),hid (ja.make w _ [.bool s,.slice A1 n1 c1,.slice A2 n2 c2]),hid (HD.out.below hal)⟩
 case round=>
  obtain⟨k,rfl,hk,hR,hB,hX,hDv⟩:=hrel
  cases gk with
  | zero=>
   have hin:¬((k:Int)<(n:Int)):=by omega
   have hkn:k=n:=by omega
   rw[hkn] at hR;clear hkn hk
   go_wp2
   go_end0
   exact⟨rfl,hR.out,hB.out⟩
  | succ gh=>
   have hlt:k<n:=by omega
   have hlt':(k:Int)<(n:Int):=by omega
   obtain⟨es1,hR1⟩:=hR.out;obtain⟨e,B1,m1,k1,B2,m2,k2,he,hee,hrt,y0,y1,y2,z0,z1,z2⟩:=hR1.at_ (j:=o+k) (by rw[ZH];have:=HN.out;omega);rw[W9] at hrt;rw[Qaz] at y0 y1 y2 z0 z1 z2;obtain⟨e0,ea,eb⟩:=e
   have hea:ea = .slice B1 m1 k1∧eb = .slice B2 m2 k2:=by simpa using hee
   obtain⟨rfl,rfl⟩:=hea;clear hee;unfold qk at hrt;dsimp only at hrt y0
   have hol:o+k<L.length:=by have:=HN.out;omega
   have hx:L[o+k]? =some (L[o+k]?.getD 0):=by rw[Qaa hol];rfl
   have hfx:=HL.out (L[o+k]?.getD 0) (Qab hx);have Hsame:=hid (BF (zE d) o k L _ hx);have Hsucc:=hid (Ga (zE d) o k L _ hx);have Hfx:=hid hfx;have Hk:=hid hk;have HR1:=hid hR1;have hbl:=hR1.own.lt;clear hx hol hfx hk hR1 hR;generalize L[o+k]?.getD 0=x at *;have hal:Below wr.heap.size wr (wr.alloc (.cells #[.bool e0,.slice B1 m1 k1,.slice B2 m2 k2] 69)):=(Below.refl _ _).alloc (Nat.le_refl _) _;have hXX:=ja.make wr 69 [.bool e0,.slice B1 m1 k1,.slice B2 m2 k2];have hXl:=hX.out.lt
   go_wp2_with fail
   refine(Qw _ x _ (hrt.below hal)).mono ?_;rintro ee w2 ⟨rfl,hB2⟩;have hB12:Below wr.heap.size wr w2:=hal.trans (hB2.mono hal.size);by_cases h0:x=0
   ·have HR2:Hid (∃es',jq w2 b es' (xB (zE d) o (k+1) L)):=hid ⟨es1,by rw[Hsame.out (by unfold zE;rw[if_pos h0])];exact HR1.out.below hB12⟩
    have HB2:=hid (hB.out.below hB12);have HX2:=hid (hX.out.below hB12 hXl);have HD2:=hid (hDv.out.below hB12);rw[QaK h0];clear h0 hB12 hB2 hal hXX y0 y1 y2 z0 z1 z2 HR1 hB hX hDv hrt hXl
    go_wp2
    go_roundg gh
    case rel=>exact⟨k+1,by go_num,by have:=Hk.out;omega,HR2,HB2,HX2,HD2⟩
    case measure=>omega
   ·have Hv:Hid (zE d x=x/d):=hid (by unfold zE;rw[if_neg h0])
    rw[Qat h0];have hX2:=hX.out.below hB12 hXl;have hXX2:=hXX.below hB2 (by simp);obtain⟨a0,a1,a2,_,_,_⟩:=hX2.three;obtain⟨b0,b1,b2,_,_,_⟩:=hXX2.three;have OV:=hid (Oo (.agg #[.bool e0,.slice B1 m1 k1,.slice B2 m2 k2]) (.agg #[.bool s,.slice A1 n1 c1,.slice A2 n2 c2]) x d w2 (hrt.below hB12) (hDv.out.below hB12) HD0.out Hfx.out.1 Hfx.out.2 HDF.out.1 HDF.out.2);have HB12:=hid hB12;clear h0 hB12 hB2 hal hXX
    go_wp2_with fail
    refine OV.out.mono ?_;clear OV;rintro ee w3 ⟨rv,rfl,hrv,hB3⟩;have HB13:=hid (HB12.out.trans (hB3.mono HB12.out.size));obtain⟨s5,A5,n5,c5,A6,n6,c6,rfl⟩:=hrv.shape;have y0':=(HB13.out.cell (p:=⟨b,o*3+k*3,none⟩) hbl).trans y0;have y1':=(HB13.out.cell (p:=⟨b,o*3+k*3+1,none⟩) hbl).trans y1;have y2':=(HB13.out.cell (p:=⟨b,o*3+k*3+2,none⟩) hbl).trans y2;have z0':=(HB13.out.frozen (p:=⟨b,o*3+k*3,none⟩) hbl).trans z0;have z1':=(HB13.out.frozen (p:=⟨b,o*3+k*3+1,none⟩) hbl).trans z1;have z2':=(HB13.out.frozen (p:=⟨b,o*3+k*3+2,none⟩) hbl).trans z2;have hbl3:b<w3.heap.size:=Qac hbl HB13.out.size;have HP:=hid ((HR1.out.below HB13.out).put (j:=o+k) (e:=(s5,.slice A5 n5 c5,.slice A6 n6 c6)) (q:=x/d) (by rw[ZH];have:=HN.out;omega) hrv);rw[Qaz,←Hv.out,Hsucc.out] at HP;dsimp only at HP;have HBt:=hid ((hB.out.below HB13.out).trans (jk.set3 w3 b (o*3+k*3) (.bool s5) (.slice A5 n5 c5) (.slice A6 n6 c6)))
    have hne:w.heap.size≠b:=fun e=>by have:=HO.out.own.lt;omega
    have HXt:=hid ((hX.out.below HB13.out hXl).but (jk.set3 w3 b (o*3+k*3) (.bool s5) (.slice A5 n5 c5) (.slice A6 n6 c6)) hne);have HDt:=hid ((hDv.out.below HB13.out).stay (HR1.out.below HB13.out).own (HR1.out.below HB13.out).noInt (jk.set3 w3 b (o*3+k*3) (.bool s5) (.slice A5 n5 c5) (.slice A6 n6 c6)));clear hrv hB3 a0 a1 a2 b0 b1 b2 y0 y1 y2 z0 z1 z2 hX2 hXX2 hrt hX hDv hB HR1 HB12 HB13 hXl hne
    go_wp2
    go_roundg gh
    case rel=>exact⟨k+1,by go_num,by have:=Hk.out;omega,hid ⟨_,HP.out⟩,HBt,HXt,HDt⟩
    case measure=>omega
theorem OW (q:Rat):yc (jh q)=(if q.num<0 then [45] else [])++decDigits q.num.natAbs∧zk (jh q)=(if q.den=1 then [49] else decDigits q.den):=by
 have hd:j7 (decDigits q.num.natAbs):=xr _
 have hs:jo (jh q)=((if q.num<0 then [45] else [])++decDigits q.num.natAbs:List UInt8).length:=by
  unfold jh;by_cases h1:q.num<0
  ·rw[if_pos h1]
   show jo (45::(decDigits q.num.natAbs++_))=_
   have e:∀r:List UInt8,jo (45::r)=jo r+1:=fun r=>by unfold jo;rw[List.findIdx_cons];simp
   rw[e];by_cases h2:q.den=1
   ·rw[if_pos h2,Qbg,QV hd];simp
   ·rw[if_neg h2,Yq hd];simp
  ·rw[if_neg h1]
   simp only[Qbe];by_cases h2:q.den=1
   ·rw[if_pos h2,Qbg,QV hd]
   ·rw[if_neg h2,Yq hd]
 unfold yc zk;rw[hs];constructor
 ·unfold jh;rw[List.take_left'];rfl
 ·by_cases h2:q.den=1
  ·rw[if_pos h2,if_pos];unfold jh;rw[if_pos h2,Qbg]
  ·rw[if_neg h2,if_neg]
   ·unfold jh
    rw[if_neg h2,List.drop_append];simp
   ·unfold jh;rw[if_neg h2];simp
theorem SC (n:Nat) (neg:Prop) [Decidable neg]:(xS ((if neg then [45] else [])++decDigits n)).length=(decDigits n).length:=by
 have hd:j7 (decDigits n):=xr _;by_cases h1:neg
 ·rw[if_pos h1]
  have:qr ([45]++decDigits n) = -1:=by
   unfold qr;rw[if_neg (by simp),if_pos (by simp)]
  unfold xS;rw[this,if_pos (by decide)]
  simp
 ·rw[if_neg h1,Qbe]
  unfold xS
  have:¬qr (decDigits n)<0:=by
   unfold qr;split
   ·omega
   ·rw[if_neg];omega
    intro hc;have hm:=hd 45 (Qab hc);revert hm;decide
  rw[if_neg this]
theorem Bk (q:Rat):xF (jh q)=if 600<(decDigits q.num.natAbs).length∨600<(decDigits q.den).length then 4 else 0:=by
 obtain⟨h1,h2⟩:=OW q;unfold xF;rw[h1,SC,h2]
 congr 1
 by_cases h:q.den=1
 ·rw[if_pos h,h,decDigits_one (by decide:(1:Nat)<10)];rfl
 ·rw[if_neg h]
end Go.Proofs.YteagkgagdelklaaGreatDoor
namespace Go.Proofs.YteagkgagdelklaaGreatDoor
section
variable {K:Type} [Lean.Grind.Field K] {T:Type} {F:Fd T} {P:T→Prop} {φ:T→K} {m n:Nat}
theorem GD (H:yz F P φ) {S:jw T} (hG:qH P m n S.rows) {zero one:T} (hz:P zero) (h1:P one) (col:Nat):∀k,k≤m → ∀x∈nsSet F zero S col k ((List.replicate n zero).set col one),P x
 | 0,_,x,hx=>by
  have hx':x∈(List.replicate n zero).set col one:=hx;rcases QaN hx' with h | h
  ·rw[QaU h];exact hz
  ·rw[h];exact h1
 | k+1,hk,x,hx=>by
  rw[Jd] at hx;rcases QaN hx with h | h
  ·exact GD H hG hz h1 col k (by omega) x h
  ·rw[h];exact(H.sub _ _ hz (JD H (hG.2 k (by omega)).2 col)).1
theorem CA (H:yz F P φ) (hinj:∀a b,P a→P b→φ a=φ b→a=b) {zero one:T} (hz:P zero) (hz0:φ zero=0) (ho1:P one) (h1:φ one=1) {R Ro Rr:List (jR T)} (hG:qH P m n R) {fa:List Nat} (hfa:∀f,f∈fa↔(f<n∧f ∉ (jU F n m R).cols)) (hfp:fa.Pairwise (fun a b=>a≠b))
  (hGo:qH P fa.length n Ro) (ho:∀i,i<fa.length → ∀x,x<n→φ (jC F Ro i x)=qD (xp (jU F n m R)) (xO F φ (jU F n m R).rows) (fa[i]?.getD 0) (jU F n m R).cols.length x)
  (hGr:qH P m n Rr) (hr:∀i,i<m → ∀x,x<n→φ (jC F Rr i x)=φ (jC F R i (n-1-x))):
  ((jU F n fa.length Ro).rows.take (jU F n fa.length Ro).cols.length).map (·.2.2)=nsBasis F zero one n (jU F n m Rr) n:=by
 obtain⟨hl,hnum⟩:=CB H hG hfa hfp hGo ho hGr hr;obtain⟨G2,D2⟩:=J2 H hGo;obtain⟨G3,D3⟩:=J2 H hGr;rw[GB];have hq2:=D2.qm;apply List.ext_getElem
 ·rw[Qar,Qak,Qar,G2.1,←hl];omega
 intro i hi1 hi2;rw[List.getElem_map,List.getElem_map,List.getElem_take]
 have hi:i<(jU F n fa.length Ro).cols.length:=by rw[Qar,Qak] at hi1;omega
 have hif:i<fa.length:=by omega
 have hrl:i<(jU F n fa.length Ro).rows.length:=by rw[G2.1];exact hif
 have hfl:i<(xL (jU F n m Rr).cols n n).length:=by omega
 have hrow:((jU F n fa.length Ro).rows[i]'hrl).2.2=jL (jU F n fa.length Ro).rows i:=(qF (Qaa hrl)).symm;rw[hrow];obtain⟨g1,g2⟩:=G2.2 i hif;generalize hf:(xL (jU F n m Rr).cols n n)[i]'hfl=f
 have hff:(xL (jU F n m Rr).cols n n)[i]?.getD 0=f:=by rw[yo hfl];exact hf
 have hnsl:(nsSet F zero (jU F n m Rr) f (jU F n m Rr).cols.length ((List.replicate n zero).set f one)).length=n:=by rw[yL];simp
 have hnsP:=GD H G3 hz ho1 f (jU F n m Rr).cols.length D3.qm;apply List.ext_getElem
 ·rw[g1];unfold x8;rw[QbD,hnsl]
 intro x hx1 hx2
 have hx:x<n:=by omega
 refine hinj _ _ (g2 _ (Qay hx1)) ?_ ?_
 ·have hm:=Qay hx2
  unfold x8 at hm;exact hnsP _ (List.mem_reverse.1 hm)
 ·have e2:(x8 F zero one n (jU F n m Rr) f)[x]?.getD F.z=(nsSet F zero (jU F n m Rr) f (jU F n m Rr).cols.length ((List.replicate n zero).set f one))[n-1-x]?.getD F.z:=by
   unfold x8;rw[List.getElem?_reverse (by rw[hnsl];omega),hnsl]
  have e3:∀(L:List T) (hx:x<L.length),φ (L[x]'hx)=φ (L[x]?.getD F.z):=fun L hx=>by rw[Qaa hx];rfl
  have e4:=hnum i hi x hx;rw[hff] at e4;refine(e3 _ _).trans (Eq.trans e4 (Eq.trans ?_ (e3 _ _).symm));rw[e2];exact(Z6 H G3 hz hz0 h1 f _ D3.qm (Nat.le_refl _) (n-1-x) (by omega)).symm
end
end Go.Proofs.YteagkgagdelklaaGreatDoor
namespace Go.Proofs.YteagkgagdelklaaGreatDoor
open Go.RowKit Go.Lib
def xk {T:Type} (z:T) (g:T→T→T) (o k:Nat) (L P:List T):List T:=L.mapIdx fun j y=>if o≤j∧j<o+k then g y (P[j]?.getD z) else y
section
variable {T:Type} (z:T) (g:T→T→T) (o k:Nat) (L P:List T)
theorem UZ:(xk z g o k L P).length=L.length:=by simp[xk]
theorem Ik:xk z g o 0 L P=L:=by
 apply Qaw;intro j;simp only[xk,Qaj,Qbf]
 cases L[j]? with
 | none=>rfl
 | some x=>simp only[QaC];rw[if_neg (by omega)]
theorem Rl:(xk z g o k L P)[o+k]? =L[o+k]? :=by
 simp only[xk,Qaj,Qb8,and_false,Qcf];cases L[o+k]? <;> simp
theorem Rm (y:T) (hy:L[o+k]? =some y):(xk z g o k L P).set (o+k) (g y (P[o+k]?.getD z))=xk z g o (k+1) L P:=by
 have h:=(List.getElem?_eq_some_iff.1 hy).1;apply Qaw;intro j;rw[QbG];simp only[xk,Qaj,List.length_mapIdx];by_cases hj:o+k=j
 ·subst hj;rw[if_pos rfl,if_pos h,hy];simp
 ·rw[if_neg hj]
  rcases Qae j L.length with hl | hl
  ·rw[Qaa hl]
   simp only[QaC,QaT];by_cases h2:o≤j∧j<o+k
   ·rw[if_pos h2,if_pos (by omega)]
   ·rw[if_neg h2,if_neg (by omega)]
  ·rw[Qah hl];rfl
theorem Ij (y:T) (hy:L[o+k]? =some y) (hf:g y (P[o+k]?.getD z)=y):xk z g o (k+1) L P=xk z g o k L P:=by
 rw[←Rm z g o k L P y hy,hf];apply Qaw;intro j;rw[QbG,UZ];by_cases hj:o+k=j
 ·subst hj;rw[Rl,hy];simp[(List.getElem?_eq_some_iff.1 hy).1]
 ·rw[if_neg hj]
end
def yQ (f y x:Rat):Rat:=if x=0 then y else y-f*x
def Jx (o n:Nat) (L P:List Rat):List Rat:=if L[o]?.getD 0=0 then L else xk 0 (yQ (L[o]?.getD 0)) o n L P
theorem TY (o n:Nat) (L P:List Rat) (h:o+n=L.length):Jx o n L P=kY jc o L P:=by
 unfold Jx kY;have hz:jc.z=0:=rfl
 have hi:∀x,(jc.isZ x=true)=(x=0):=fun x=>by simp[jc]
 rw[hz];simp only[hi];split
 ·rfl
 ·unfold xk
  apply Qaw;intro j;simp only[Qaj];rcases Qae j L.length with hl | hl
  ·rw[Qaa hl]
   simp only[QaC,QaT];by_cases h2:o≤j
   ·rw[if_pos ⟨h2,by omega⟩,if_pos h2];simp[yQ,jc]
   ·rw[if_neg (by omega),if_neg h2]
  ·rw[Qah hl];rfl
theorem H5 (w:World):(nilAhead 397 77 (.agg #[]) "talisman/algebra.minus").run Tryz.prog w = .ok (some false) w:=by kernel_rfl
def Xc (o:Nat) (L P:List Rat):Prop:=kI (L[o]?.getD 0) ∧ ∀j,o≤j→j<L.length→kI (P[j]?.getD 0)∧yf (L[j]?.getD 0) (L[o]?.getD 0*P[j]?.getD 0)
theorem H7 (w:World):(nilAhead 397 77 (.agg #[]) "talisman/algebra.isZero").run Tryz.prog w = .ok (some false) w:=by kernel_rfl
abbrev js:=jR Rat
def jV (n:Nat) (r:js):Value:= .slice (some ⟨r.1,0,none⟩) n r.2.1
structure j5 (w:World) (g:Nat) (R:List js) (n:Nat):Prop where
 own:ja w g 72 (R.map (jV n))
 row:∀r∈R,(∃es,jq w r.1 es r.2.2)∧r.2.2.length=n∧n≤r.2.1∧r.2.1≤9223372036854775807
 apart:(R.map (·.1)).Nodup
theorem j5.below {w w':World} {g:Nat} {R:List js} {n:Nat} (h:j5 w g R n) (hb:Below w.heap.size w w'):j5 w' g R n:=
 ⟨h.own.below hb h.own.lt,fun r hr=>⟨by obtain⟨es,he⟩:=(h.row r hr).1;exact⟨es,he.below hb⟩,(h.row r hr).2⟩,h.apart⟩
theorem j5.cellRow {w:World} {g:Nat} {R:List js} {n:Nat} (h:j5 w g R n) {i:Nat} {r:js} (hr:R[i]? =some r):w.cell? ⟨g,i,none⟩=some (jV n r):=by
 rw[h.own.cell i,Qao,hr];rfl
theorem Q6 (g c n:Nat) (R:List js) (w:World) (hM:j5 w g R n):
  Calls Tryz.prog 64 #[.slice (some ⟨g,0,none⟩) R.length c] w fun e w'=>e = .returned (.int .i64 ((if R=[] then 0 else n:Nat):Int))∧w=w':=by
 rcases R with _ | ⟨r,R⟩
 ·go_enter Tryz.func64,Tryz.ntmps64
  go_wp2
  go_ret;exact⟨rfl,rfl⟩
 ·have hck:=hM.cellRow (i:=0) (r:=r) rfl
  have hl:((((r::R).length:Nat):Int)==0)=false:=by simp;omega
  unfold jV at hck
  have hpos:0<(r::R).length:=by simp
  clear hM;generalize (r::R).length=m at *;go_enter Tryz.func64,Tryz.ntmps64
  go_wp2
  go_ret;exact⟨rfl,rfl⟩
def xi (R:List js) (i j:Nat):Rat:=((R[i]?.map (·.2.2)).getD [])[j]?.getD 0
theorem QE {R:List js} {i j:Nat} {r:js} (hr:R[i]? =some r):xi R i j=r.2.2[j]?.getD 0:=by unfold xi;rw[hr];rfl
def Xb (R:List js) (t a c:Nat):Prop:=∀j,a≤j→j<c → ∀i,t≤i→i<R.length→xi R i j=0
def G0 (R:List js) (n top from_:Nat) (w:World) (e:Ending) (w':World):Prop:=
 Below w.heap.size w w'∧((∃i j:Nat,e = .returned (.tuple #[.int .i64 i,.int .i64 j,.bool true])∧top≤i∧i<R.length∧from_≤j∧j<n∧xi R i j≠0∧(∀k,top≤k→k<i→xi R k j=0)∧Xb R top from_ j)
  ∨ (∃i j:Int,e = .returned (.tuple #[.int .i64 i,.int .i64 j,.bool false])∧Xb R top from_ n))
theorem Ct (g c n:Nat) (R:List js) (w:World) (top from_:Nat) (hM:j5 w g R n) (hR:R≠[]) (hc:R.length≤c) (hc2:c≤1000000) (ht:top≤R.length) (hf:from_≤n) (hn:n≤1000000):
  Calls Tryz.prog 83 #[.iface 77 (.agg #[]),.slice (some ⟨g,0,none⟩) R.length c,.int .i64 top,.int .i64 from_] w (G0 R n top from_ w):=by
 have hZ:=Uk;have hZn:=H7
 have hmf:∀(fn:Fn) (first cap:Array Value) (w:World),(Instr.makeFunc fn first cap).run Tryz.prog w = .ok (.func fn first cap) w:=fun _ _ _ _=>rfl
 have HW:=hid (fun W (h:j5 W g R n)=>by have:=Q6 g c n R W h;rw[if_neg hR] at this;exact this);have HR:=hid hR;have HM:=hid hM;clear hR hM;go_enter Tryz.func83,Tryz.ntmps83
 go_wp2_with fail
 go_step3
 go_wp2_with fail
 try go_step3
 try go_wp2_with fail
 go_loopg [8,9,10] (n-from_) (fun gh r j f wr=>∃(rr:Int) (k:Nat),r = .int .i64 rr∧j = .int .i64 k∧f = .bool false∧from_≤k∧k+gh=n∧Hid (Xb R top from_ k)∧Hid (j5 wr g R n)∧Below w.heap.size w wr)
 case atStart=>exact⟨0,from_,rfl,rfl,rfl,by omega,by omega,hid (fun j h1 h2=>by omega),HM,Below.refl _ _⟩
 case round=>
  clear HM;obtain⟨rr,k,rfl,rfl,rfl,hk1,hk2,hC,hMr,hB⟩:=hrel
  cases gk with
  | zero=>
   have hkn:k=n:=by omega
   subst hkn
   go_wp2_with (go_at_call 64;refine(HW.out _ hMr.out).mono ?_;rintro e w2 ⟨rfl,rfl⟩)
   rw[Exit.noGoto_ret];go_ret3;exact⟨hB,Or.inr ⟨_,_,rfl,hC.out⟩⟩
  | succ gh=>
   have hlt:k<n:=by omega
   go_wp2_with (go_at_call 64;refine(HW.out _ hMr.out).mono ?_;rintro e w2 ⟨rfl,rfl⟩)
   go_loopg [8,10] (R.length-top) (fun h r f wx=>∃i:Nat,r = .int .i64 i∧f = .bool false∧top≤i∧i+h=R.length∧Hid (∀t,top≤t→t<i→xi R t k=0)∧Hid (j5 wx g R n)∧Hid (Below w.heap.size w wx))
   case atStart=>exact⟨top,rfl,rfl,by omega,by omega,hid (fun t h1 h2=>by omega),hMr,hid hB⟩
   case round=>
    clear hMr hB;obtain⟨i,rfl,rfl,hi1,hi2,hT,hMx,hBx⟩:=hrel
    cases gk with
    | zero=>
     have hin:¬((i:Int)<(R.length:Int)):=by omega
     have hie:i=R.length:=by omega
     have HT:=hid hT.out;rw[hie] at HT
     have Hcl:Hid (Xb R top from_ (k+1)):=hid (by
      intro j h1 h2 t h3 h4;rcases Qae j k with h5 | h5
      ·exact hC.out j h1 h5 t h3 h4
      ·have:j=k:=by omega
       subst this;exact HT.out t h3 h4)
     clear hie
     go_wp2
     go_roundg gh
     case rel=>exact⟨i,k+1,rfl,by go_num,rfl,by omega,by omega,Hcl,hMx,hBx.out⟩
     case measure=>omega
    | succ h=>
     have hin:(i:Int)<(R.length:Int):=by omega
     have hil:i<R.length:=by omega
     obtain⟨r,hr⟩:∃r,R[i]? =some r:=⟨R[i],Qaa hil⟩
     have hc1:=hMx.out.cellRow hr;obtain⟨⟨es,hes⟩,hrl,hcap1,hcap2⟩:=hMx.out.row r (Qab hr);obtain⟨e,B1,m1,k1,B2,m2,k2,_,hee,hrt,y0,y1,y2,_,_,_⟩:=hes.at_ (j:=k) (by omega);have hblk:=hes.own.lt;have hgl:=hMx.out.own.lt;have Hnum:=hid (QE (j:=k) hr);unfold jV at hc1;obtain⟨rb,rc,rl⟩:=r;obtain⟨e0,ea,eb⟩:=e
     have hea:ea = .slice B1 m1 k1∧eb = .slice B2 m2 k2:=by simpa using hee
     obtain⟨rfl,rfl⟩:=hea;unfold qk at hrt;dsimp only at hc1 hrl hcap1 hcap2 hblk Hnum hrt y0 y1 y2;have Hrt:=hid hrt;clear hr hee hrt hes;generalize rl[k]?.getD 0=x at *
     have hkn':(k:Int)<(n:Int):=by omega
     have KS:Hid (∀z,Below wr.heap.size wr z→z.cell? ⟨g,i,none⟩=some (.slice (some ⟨rb,0,none⟩) n rc)∧z.cell? ⟨rb,k*3,none⟩=some (.bool e0)∧z.cell? ⟨rb,k*3+1,none⟩=some (.slice B1 m1 k1)∧z.cell? ⟨rb,k*3+2,none⟩=some (.slice B2 m2 k2)∧Below wr.heap.size wr z):=hid (fun z hb=>
      ⟨(hb.cell (p:=⟨g,i,none⟩) hgl).trans hc1,(hb.cell (p:=⟨rb,k*3,none⟩) hblk).trans y0,(hb.cell (p:=⟨rb,k*3+1,none⟩) hblk).trans y1,(hb.cell (p:=⟨rb,k*3+2,none⟩) hblk).trans y2,hb⟩)
     have HMr:=hid (fun (w4:World) (hb:Below wr.drew.heap.size wr.drew w4)=>(hMx.out.below (xJ hb)));have HBr:=hid (fun (w4:World) (hb:Below wr.drew.heap.size wr.drew w4)=>(hBx.out.trans ((xJ hb).mono hBx.out.size)))
     go_wp2
     by_cases h0:x=0
     ·have Hnext:Hid (∀t,top≤t→t<i+1→xi R t k=0):=hid (by
       intro t h1 h2;rcases Qae t i with h3 | h3
       ·exact hT.out t h1 h3
       ·have:t=i:=by omega
        subst this;rw[Hnum.out];exact h0)
      have Hde:=hid (QaK h0);clear h0
      go_region_held3 (fun z=>z.cell? ⟨g,i,none⟩=some (.slice (some ⟨rb,0,none⟩) n rc)∧z.cell? ⟨rb,k*3,none⟩=some (.bool e0)∧z.cell? ⟨rb,k*3+1,none⟩=some (.slice B1 m1 k1)∧z.cell? ⟨rb,k*3+2,none⟩=some (.slice B2 m2 k2)∧Below wr.heap.size wr z)
       (first | exact KS.out _ (Below.refl _ _).drew | exact KS.out _ (xJ HB4.out))
       (first | (go_at_call 249;refine(Qw _ x _ (Hrt.out.below (Below.refl _ _).drew)).mono ?_;rintro e w4 ⟨rfl,hB4⟩;rw[Hde.out];have HB4:=hid hB4;clear hB4))
      all_goals (
       have HM4:=hid (HMr.out _ HB4.out);have HB5:=hid (HBr.out _ HB4.out);clear HB4 KS HMr HBr hMx hBx
       go_wp2
       go_roundg h
       case rel=>exact⟨i+1,by go_num,rfl,by omega,by omega,Hnext,HM4,HB5⟩
       case measure=>omega)
     ·have Hx:Hid (xi R i k≠0):=hid (by rw[Hnum.out];exact h0)
      have Hde:=hid (Qat h0);clear h0
      go_region_held3 (fun z=>z.cell? ⟨g,i,none⟩=some (.slice (some ⟨rb,0,none⟩) n rc)∧z.cell? ⟨rb,k*3,none⟩=some (.bool e0)∧z.cell? ⟨rb,k*3+1,none⟩=some (.slice B1 m1 k1)∧z.cell? ⟨rb,k*3+2,none⟩=some (.slice B2 m2 k2)∧Below wr.heap.size wr z)
       (first | exact KS.out _ (Below.refl _ _).drew | exact KS.out _ (xJ HB4.out))
       (first | (go_at_call 249;refine(Qw _ x _ (Hrt.out.below (Below.refl _ _).drew)).mono ?_;rintro e w4 ⟨rfl,hB4⟩;rw[Hde.out];have HB4:=hid hB4;clear hB4))
      all_goals (
       have HB5:=hid (HBr.out _ HB4.out);clear HB4 KS HMr HBr hMx hBx
       go_wp2
       rw[Exit.noGoto_ret];go_ret3
       exact⟨HB5.out,Or.inl ⟨i,k,rfl,hi1,hil,hk1,hlt,Hx.out,fun t h1 h2=>hT.out t h1 h2,hC.out⟩⟩)
