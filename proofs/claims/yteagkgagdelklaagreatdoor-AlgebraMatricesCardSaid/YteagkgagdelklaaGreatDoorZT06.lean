/- Plain mathematics: the vectors that a matrix makes 0, and a basis of them. -/
import Derived.Test.YteagkgagdelklaaGreatDoorZT04
set_option maxRecDepth 100000
set_option maxHeartbeats 4000000
namespace Go.Proofs.YteagkgagdelklaaGreatDoor
section
variable {K:Type} [Lean.Grind.Field K]
def ke (f:Nat→K):Nat→K
 | 0=>0
 | k+1=>ke f k+f k
theorem Yv {f:Nat→K} :∀n,(∀k,k<n→f k=0)→ke f n=0
 | 0,_=>rfl
 | n+1,h=>by
  show ke f n+f n=0
  rw[Yv n (fun k hk=>h k (by omega)),h n (by omega)];grind
theorem QY {f:Nat→K} {a:Nat} :∀n,a<n→(∀k,k<n→k≠a→f k=0)→ke f n=f a
 | 0,h,_=>by omega
 | n+1,ha,h=>by
  show ke f n+f n=f a
  by_cases hn:a=n
  ·subst hn
   rw[Yv a (fun k hk=>h k (by omega) (by omega))];grind
  ·rw[QY n (by omega) (fun k hk hk2=>h k (by omega) hk2),h n (by omega) (fun e=>hn e.symm)];grind
theorem Ev {f:Nat→K} {a b:Nat} (hab:a≠b):∀n,a<n→b<n→(∀k,k<n→k≠a→k≠b→f k=0)→ke f n=f a+f b
 | 0,h,_,_=>by omega
 | n+1,ha,hb,h=>by
  show ke f n+f n=f a+f b
  by_cases hn:a=n
  ·subst hn
   rw[QY (a:=b) a (by omega) (fun k hk hk2=>h k (by omega) (by omega) hk2)];grind
  ·by_cases hn2:b=n
   ·subst hn2
    rw[QY (a:=a) b (by omega) (fun k hk hk2=>h k (by omega) hk2 (by omega))]
   ·rw[Ev hab n (by omega) (by omega) (fun k hk h1 h2=>h k (by omega) h1 h2),h n (by omega) (fun e=>hn e.symm) (fun e=>hn2 e.symm)];grind
theorem Yu {f g h:Nat→K} {t:K} :∀n,(∀k,k<n→f k=g k-t*h k)→ke f n=ke g n-t*ke h n
 | 0,_=>by show (0:K)=0-t*0;grind
 | n+1,H=>by
  show ke f n+f n=ke g n+g n-t*(ke h n+h n)
  rw[Yu n (fun k hk=>H k (by omega)),H n (by omega)];grind
theorem Jj {f g:Nat→K} :∀n,(∀k,k<n→f k=g k)→ke f n=ke g n
 | 0,_=>rfl
 | n+1,h=>by
  show ke f n+f n=ke g n+g n
  rw[Jj n (fun k hk=>h k (by omega)),h n (by omega)]
theorem Es (f:Nat→K):∀n,ke f (n+1)=f 0+ke (fun k=>f (k+1)) n
 | 0=>by show (0:K)+f 0=f 0+0;grind
 | n+1=>by
  show ke f (n+1)+f (n+1)=f 0+(ke (fun k=>f (k+1)) n+f (n+1))
  rw[Es f n];grind
theorem Et (f:Nat→K):∀n,ke (fun k=>f (n-1-k)) n=ke f n
 | 0=>rfl
 | n+1=>by
  rw[Es]
  show f (n+1-1-0)+ke (fun k=>f (n+1-1-(k+1))) n=ke f n+f n
  rw[Jj (g:=fun k=>f (n-1-k)) n (fun k hk=>congrArg f (by omega)),Et f n,show n+1-1-0=n by omega];grind
def kn (m n:Nat) (M:Nat→Nat→K) (v:Nat→K):Prop:=∀i,i<m→ke (fun k=>M i k*v k) n=0
theorem kn.spc (m n:Nat) (M:Nat→Nat→K):JU (kn m n M):=by
 intro v u t hv hu i hi;rw[Yu (g:=fun k=>M i k*v k) (h:=fun k=>M i k*u k) (t:=t) n (fun k _=>by grind),hv i hi,hu i hi];grind
theorem kn.ext {m n:Nat} {M:Nat→Nat→K} {v u:Nat→K} (h:kn m n M v) (e:∀k,k<n→u k=v k):kn m n M u:=by
 intro i hi;rw[Jj (g:=fun k=>M i k*v k) n (fun k hk=>by rw[e k hk])];exact h i hi
structure yY (r n:Nat) (c:Nat→Nat) (E:Nat→Nat→K):Prop where
 lt:∀i,i<r→c i<n
 one:∀i,i<r→E i (c i)=1
 zero:∀i j,i<r→j<r→i≠j→E i (c j)=0
theorem yY.inj {r n:Nat} {c:Nat→Nat} {E:Nat→Nat→K} (h:yY r n c E) {i j:Nat} (hi:i<r) (hj:j<r) (e:c i=c j):i=j:=by
 refine Classical.byContradiction fun hne=> ?_
 have h1:=h.zero i j hi hj hne;rw[←e,h.one i hi] at h1;exact Lean.Grind.Field.zero_ne_one h1.symm
def qD (c:Nat→Nat) (E:Nat→Nat→K) (f:Nat):Nat→Nat→K
 | 0=>fun k=>if k=f then 1 else 0
 | i+1=>fun k=>if k=c i then -(E i f) else qD c E f i k
theorem Jt {c:Nat→Nat} {E:Nat→Nat→K} {f k:Nat} :∀r,(∀i,i<r→k≠c i)→qD c E f r k=if k=f then 1 else 0
 | 0,_=>rfl
 | r+1,h=>by
  show (if k=c r then -(E r f) else qD c E f r k)=_
  rw[if_neg (h r (by omega)),Jt r (fun i hi=>h i (by omega))]
theorem YW {n:Nat} {c:Nat→Nat} {E:Nat→Nat→K} {f:Nat} {s:Nat} (H:yY s n c E) {i:Nat} :∀r,r≤s→i<r→qD c E f r (c i) = -(E i f)
 | 0,_,h=>by omega
 | r+1,hs,h=>by
  show (if c i=c r then -(E r f) else qD c E f r (c i))=_
  by_cases hi:i=r
  ·subst hi;rw[if_pos rfl]
  ·rw[if_neg (fun e=>hi (H.inj (by omega) (by omega) e)),YW H r (by omega) (by omega)]
variable {r n:Nat} {c:Nat→Nat} {E:Nat→Nat→K}
theorem Xm (h:yY r n c E) {f:Nat} (hf:f<n) (hfree:∀i,i<r→f≠c i):kn r n E (qD c E f r):=by
 intro i hi;rw[Ev (a:=f) (b:=c i) (hfree i hi) n hf (h.lt i hi) (fun k _ h1 h2=> ?_)]
 ·rw[Jt r hfree,if_pos rfl,YW h r (Nat.le_refl _) hi,h.one i hi];grind
 ·by_cases hk:∃j,j<r∧k=c j
  ·obtain⟨j,hj,rfl⟩:=hk
   rw[h.zero i j hi hj (fun e=>h2 (by rw[e]))];grind
  ·rw[Jt r (fun j hj e=>hk ⟨j,hj,e⟩),if_neg h1];grind
theorem WK (h:yY r n c E) {v:Nat→K} (hv:kn r n E v) (h0:∀f,f<n→(∀i,i<r→f≠c i)→v f=0):∀k,k<n→v k=0:=by
 intro k hk;by_cases hp:∃j,j<r∧k=c j
 ·obtain⟨i,hi,rfl⟩:=hp
  have:=hv i hi;rw[QY (a:=c i) n hk (fun x hx hne=> ?_),h.one i hi] at this
  ·grind
  ·by_cases hp2:∃j,j<r∧x=c j
   ·obtain⟨j,hj,rfl⟩:=hp2
    rw[h.zero i j hi hj (fun e=>hne (by rw[e]))];grind
   ·rw[h0 x hx (fun j hj e=>hp2 ⟨j,hj,e⟩)];grind
 ·exact h0 k hk (fun j hj e=>hp ⟨j,hj,e⟩)
end
end Go.Proofs.YteagkgagdelklaaGreatDoor
namespace Go.Proofs.YteagkgagdelklaaGreatDoor
open Go.RowKit
theorem Qp (v:Value) (x b:Nat) (w:World) (h:Nt w v x) (hb0:0<b) (hbw:b<WB) (hf:jp x):
  Calls Tryz.prog 105 #[v,.int .u64 b] w fun e w'=>∃v,e = .returned (.tuple #[v,.int .u64 ((x%b:Nat):Int)])∧Nt w' v (x/b)∧Below w.heap.size w w':=by
 obtain⟨xs,A,c,rfl,h1,h2,h3,hc1,hc2,hs⟩:=h.open_;have hlen:=jp.len h3 h1 hf;have HD:=Lib.hid (jp.words h3 h1 hf);clear hf;subst h1;have hmk:=yK w xs.length (by omega);clear h;go_enter Tryz.func105,Tryz.ntmps105
 go_wp2
 go_loopw [5,6] (fun r i wr=>∃(k b0:Nat) (L:List Nat),i = .int .i64 ((k:Int)-1)∧r = .int .u64 b0∧k≤xs.length∧Hid (k=xs.length→b0=0)∧Hid (yV xs L b k b0)∧ja wr w.heap.size 89 (jz L)∧Below w.heap.size w wr) (fun _ i _=>(intOf i+1).toNat)
 case atStart=>exact⟨xs.length,0,_,rfl,rfl,by omega,Lib.hid (fun _=>rfl),Lib.hid (yV.start xs b hb0),ja.make _ _ _,(Below.refl _ _).alloc (Nat.le_refl _) _⟩
 case round=>
  obtain⟨k,r,L,rfl,rfl,hk,hZ,hI,hO,hB⟩:=hrel;have hLl:L.length=xs.length:=hI.out.1;have hrb:r<b:=hI.out.2.2.1;by_cases hk0:k=0
  ·subst hk0
   obtain⟨q1,q2⟩:=hI.out.last;have Q1:=Lib.hid q1;have Q2:=Lib.hid q2;clear q1 q2;have hok:=hI.out.2.1;have hsl:=Lib.hid (hO.sl xs.length (by rw[jB];omega) (by omega));clear hLl
   go_wp2_with (go_at_call 104;refine(zP _ _ _ _ _ hok hsl.out).mono ?_;rintro e w' ⟨v,rfl,hv,rfl⟩)
   go_ret2;refine⟨v,by rw[←Q2.out];rfl,?_,hB⟩;rw[←Q1.out];exact hv
  ·obtain⟨j,rfl⟩:∃j,k=j+1:=⟨k-1,by omega⟩
   rw[show ((j+1:Nat):Int)-1=(j:Int) from by omega];obtain⟨b0,off,rfl,hbb,hcell⟩:=hs.at_ (k:=j) (by rw[jB];omega)
   have Hz:Hid (r=0∨JQ):=Lib.hid (by
    rcases HD.out with h | h
    ·exact .inl (hZ.out (by omega))
    ·exact .inr h)
   clear hZ;have hck:=(hB.cell (p:=⟨b0,off+j,none⟩) hbb).trans ((hcell j (by rw[jB];omega)).trans (jP xs j (by omega)));have hck2:=(hO.cell j).trans (jP L j (by omega));have hfr:=hO.free j;have hwx:=ka h2 j;have Hst:=Lib.hid (hI.out.step (by omega) hb0 (VU hrb hwx));have Hdm:=Lib.hid (QaP (r*WB+xs[j]?.getD 0) b);have hrm:(r*WB+xs[j]?.getD 0)%b<b:=QaI _ hb0;generalize xs[j]?.getD 0=x at *;generalize L[j]?.getD 0=z at *;generalize (r*WB+x)/b=q at *;generalize (r*WB+x)%b=r' at *;have Hdiv:=Lib.hid (fun w=>NH r x b q r' w Hz.out hrb hwx hbw (by rw[Qam q b];exact Hdm.out.symm) hrm)
   have hlj:j<xs.length:=by omega
   clear hcell hs hLl hwx Hdm hrm
   go_wp2_with (first | (go_at_call 144;refine(Hdiv.out _).mono ?_;rintro e w' ⟨rfl,nq,rfl⟩))
   refine⟨⟨j,r',_,by go_num,rfl,by omega,Lib.hid (fun h=>by omega),Hst,?_,?_⟩,by simp[intOf]⟩
   ·rw[←kN];exact(hO.drewN nq).put j _
   ·exact(below_drewN hB nq).setCell (by simp) _
end Go.Proofs.YteagkgagdelklaaGreatDoor
namespace Go.Proofs.YteagkgagdelklaaGreatDoor
open Go.RowKit Go.Lib
def yt (na:Bool) (x:Nat) (nb:Bool) (y:Nat):Bool×Nat:=
 if na=nb then (na,x+y) else if x=y then (false,0) else if y<x then (na,x-y) else (nb,y-x)
theorem CY {x y:Nat} (h:x=y):kq x y=0:=by unfold kq;rw[if_neg (by omega),if_neg (by omega)]
theorem CZ {x y:Nat} (h:y<x):kq x y=1:=by unfold kq;rw[if_neg (by omega),if_pos h]
theorem C0 {x y:Nat} (h:x<y):kq x y = -1:=by unfold kq;rw[if_pos h]
def Ep (r:Bool×Nat) (w:World) (e:Ending) (w':World):Prop:=∃v,e = .returned (.tuple #[.bool r.1,v])∧Nt w' v r.2∧Below w.heap.size w w'
theorem ON (na nb:Bool) (v u:Value) (x y:Nat) (w:World) (h:Nt w v x) (h':Nt w u y) (f1:jp x) (f2:jp y):
  Calls Tryz.prog 152 #[.bool na,v,.bool nb,u] w (Ep (yt na x nb y) w):=by
 have HS:=hid (rfl:yt na x nb y=yt na x nb y)
 conv at HS=>rhs;rhs;unfold yt
 generalize yt na x nb y=r at *;by_cases he:na=nb
 ·have HS':=hid (HS.out.trans (if_pos he))
  clear HS
  have hb:(na==nb)=true:=by simp[he]
  clear he;go_enter Tryz.func152,Tryz.ntmps152
  go_wp2_with (go_at_call 183;refine(Fl v u x y _ h h' f1 f2).mono ?_;rintro e w2 ⟨s,rfl,hs,hB⟩)
  go_ret2;exact⟨s,by rw[HS'.out];rfl,by rw[HS'.out];exact hs,hB⟩
 ·have HS1:=hid (HS.out.trans (if_neg he))
  have hb:(na==nb)=false:=by simpa using he
  clear HS he;by_cases hxy:x=y
  ·have HS2:=hid (HS1.out.trans (if_pos hxy))
   have Ho:=hid (CY hxy);clear HS1 hxy;go_enter Tryz.func152,Tryz.ntmps152
   go_wp2_with (go_at_call 125;refine(xq v u x y _ h h').mono ?_;rintro e w2 ⟨rfl,n,rfl⟩;rw[Ho.out])
   go_ret2;exact⟨_,by rw[HS2.out];rfl,by rw[HS2.out];exact Nt.nil,below_drewN (Below.refl _ _) n⟩
  ·have HS2:=hid (HS1.out.trans (if_neg hxy))
   clear HS1;by_cases hlt:y<x
   ·have HS3:=hid (HS2.out.trans (if_pos hlt))
    have Ho:=hid (CZ hlt);have Hl:=hid (Qbo hlt);clear HS2 hxy hlt;go_enter Tryz.func152,Tryz.ntmps152
    go_wp2_with (first
     | (go_at_call 125;refine(xq v u x y _ h h').mono ?_;rintro e w2 ⟨rfl,n,rfl⟩;rw[Ho.out])
     | (go_at_call 184;refine(Gk v u x y _ (h.drewN n) (h'.drewN n) Hl.out f1).mono ?_;rintro e w3 ⟨s,rfl,hs,hB⟩))
    go_ret2;exact⟨s,by rw[HS3.out];rfl,by rw[HS3.out];exact hs,(below_drewN (Below.refl _ w) n).trans hB⟩
   ·have HS3:=hid (HS2.out.trans (if_neg hlt))
    have Ho:=hid (C0 (show x<y by omega));have Hl:=hid (show x≤y by omega);clear HS2 hxy hlt;go_enter Tryz.func152,Tryz.ntmps152
    go_wp2_with (first
     | (go_at_call 125;refine(xq v u x y _ h h').mono ?_;rintro e w2 ⟨rfl,n,rfl⟩;rw[Ho.out])
     | (go_at_call 184;refine(Gk u v y x _ (h'.drewN n) (h.drewN n) Hl.out f2).mono ?_;rintro e w3 ⟨s,rfl,hs,hB⟩))
    go_ret2;exact⟨s,by rw[HS3.out];rfl,by rw[HS3.out];exact hs,(below_drewN (Below.refl _ w) n).trans hB⟩
end Go.Proofs.YteagkgagdelklaaGreatDoor
namespace Go.Proofs.YteagkgagdelklaaGreatDoor
open Go.RowKit
theorem ED (v:Value) (x f a:Nat) (w:World) (h:Nt w v x) (hfw:f<WB) (haw:a<WB) (hf:jp x):
  Calls Tryz.prog 57 #[v,.int .u64 f,.int .u64 a] w fun e w'=>∃v,e = .returned v∧Nt w' v (x*f+a)∧Below w.heap.size w w':=by
 obtain⟨xs,A,c,rfl,h1,h2,h3,hc1,hc2,hs⟩:=h.open_;have hlen:=jp.len h3 h1 hf;subst h1;have hmk:=yK w (xs.length+1) (by omega);rw[show ((xs.length+1:Nat):Int)=(xs.length:Int)+1 from by omega] at hmk;have hstart:=Lib.hid (yj.start xs f a haw);have hown:=ja.make w 89 (jz (List.replicate (xs.length+1) 0));have hown2:=hown.put 0 (.int .u64 (a:Int));rw[kN] at hown2;have hck2:=(hown.cell 0).trans (jP _ 0 (by simp));have hfr:=hown.free 0;rw[show (List.replicate (xs.length+1) 0)[0]?.getD 0=0 from by simp] at hck2
 obtain⟨w1,hw1⟩:∃w1,w1=w.alloc (.cells (jz (List.replicate (xs.length+1) 0)).toArray 89):=⟨_,rfl⟩
 rw[←hw1] at hmk hown hown2 hck2 hfr
 have hB1:Below w.heap.size w w1:=by rw[hw1];exact(Below.refl _ _).alloc (Nat.le_refl _) _
 clear h hw1;go_enter Tryz.func57,Tryz.ntmps57
 go_wp2
 go_loopw [8,9,10,11,12,22] (fun _ _ _ _ _ i wr=>∃(k:Nat) (L:List Nat),i = .int .i64 k∧k≤xs.length∧Hid (yj xs L f a k)∧ja wr w.heap.size 89 (jz L)∧Below w.heap.size w wr) (fun _ _ _ _ _ i _=>xs.length-(intOf i).toNat)
 case atStart=>exact⟨0,_,rfl,by omega,hstart,hown2,hB1.setCell (by simp) _⟩
 case round=>
  clear hown hown2 hck2 hfr;obtain⟨k,L,rfl,hk,hI,hO,hB⟩:=hrel;have hLl:L.length=xs.length+1:=hI.out.1;by_cases hlt:k<xs.length
  ·obtain⟨b0,off,rfl,hbb,hcell⟩:=hs.at_ (k:=k) (by rw[jB];omega)
   have hck:=(hB.cell (p:=⟨b0,off+k,none⟩) hbb).trans ((hcell k (by rw[jB];omega)).trans (jP xs k (by omega)));have hck2:=(hO.cell k).trans (jP L k (by omega));have hck3:=(hO.cell (k+1)).trans (jP L (k+1) (by omega));have hfr:=hO.free k;have hfr3:=hO.free (k+1);have hwx:=ka h2 k;have hwz:=ka hI.out.2.1 k;obtain⟨m1,m2,m3,m4⟩:=Gs _ f hwx hfw
   have Hst:=fun d c hi lo a1 a2 a3 a4=>Lib.hid (yj.step hI.out (d:=d) (c:=c) (hi:=hi) (lo:=lo) (by omega) a1 a2 a3 a4)
   have hm4:=m4 _ hwz;generalize xs[k]?.getD 0=x at *;generalize L[k]?.getD 0=z at *;generalize L[k+1]?.getD 0=z1 at *;generalize hhi:x*f/WB=hi at *;generalize hlo:x*f%WB=lo at *;obtain⟨d,cr,e1,e2,a1,a2,a3⟩:=Kx z lo hwz m3;have Hm2:=Lib.hid m2.symm
   have hbd:(hi:Int)+cr≤18446744073709551615:=by
    have:(z+lo)/WB=cr:=by unfold WB at *;omega
    unfold WB at *;omega
   have Hs2:=Hst d cr hi lo a1 (by unfold WB;omega) m2.symm a3
   have Hmul:=fun w=>QB x f hi lo w hwx hfw Hm2.out m3
   have Hadd:=fun w=>Qi (z:Int) (lo:Int) (by omega) (by unfold WB at hwz;omega) (by omega) (by unfold WB at m3;omega) w
   rw[e1,e2] at Hadd;have HMul:=Lib.hid Hmul;clear Hmul hcell hs hLl m1 m2 m4 hm4 Hst hhi hlo hwx hwz m3 a3 a1 e1 e2
   go_wp2_with (first | (go_at_call 102;refine(HMul.out _).mono ?_;rintro e w' ⟨rfl,rfl⟩))
   refine⟨⟨k+1,_,by go_num,by omega,Hs2,?_,(hB.setCell (by simp) _).setCell (by simp) _⟩,by simp[intOf];omega⟩;have:=(hO.put k (.int .u64 (d:Int))).put (k+1) (.int .u64 ((hi+cr:Nat):Int));rw[kN,kN] at this;simpa using this
  ·have hkk:k=xs.length:=by omega
   subst hkk;have hval:=Lib.hid hI.out.last;have hok:=hI.out.2.1;have hsl:=Lib.hid (hO.sl (xs.length+1) (by rw[jB];omega) (by omega));clear hLl
   go_wp2_with (go_at_call 104;refine(zP _ _ _ _ _ hok hsl.out).mono ?_;rintro e w' ⟨v,rfl,hv,rfl⟩)
   go_ret;refine⟨v,rfl,?_,hB⟩;rw[←hval.out];exact hv
def SU (bs L0:List Nat) (f off g:Nat) (w:World) (e:Ending) (w':World):Prop:=
 ∃(c:Nat) (L:List Nat),e = .returned (.int .u64 c)∧zR bs L0 L f off bs.length c∧ja w' g 89 (jz L)∧Below g w w'
theorem SJ (u:Value) (bs L0:List Nat) (f off g n c:Nat) (w w0:World) (hfw:f<WB) (hO:ja w g 89 (jz L0)) (hok:jJ L0) (hn:n=bs.length) (hlen:off+bs.length≤L0.length)
  (hbok:jJ bs) (gs:Sl w0 1 u (jz bs)) (hB0:Below w0.heap.size w0 w) (hg:w0.heap.size≤g):
  Calls Tryz.prog 181 #[.slice (some ⟨g,off,none⟩) n c,u,.int .u64 f] w (SU bs L0 f off g w):=by
 obtain⟨B,d,rfl,gc1,gc2⟩:=gs.form;rw[jB] at gc1 gs ⊢;subst hn;have hst:=Lib.hid (zR.start (bs:=bs) f off hok);go_enter Tryz.func181,Tryz.ntmps181
 go_wp2
 go_loopw [6,7,8,9,10,11,14] (fun cr _ _ _ _ _ i wr=>∃(k c:Nat) (L:List Nat),i = .int .i64 k∧cr = .int .u64 c∧k≤bs.length∧Hid (zR bs L0 L f off k c)∧ja wr g 89 (jz L)∧Below g w wr) (fun _ _ _ _ _ _ i _=>bs.length-(intOf i).toNat)
 case atStart=>exact⟨0,0,L0,rfl,rfl,by omega,hst,hO,Below.refl _ _⟩
 case round=>
  clear hO;obtain⟨k,c,L,rfl,rfl,hk,hI,hO,hB⟩:=hrel;have hLl:L.length=L0.length:=hI.out.1;have hcw:c<WB:=hI.out.2.2.2.1;by_cases hlt:k<bs.length
  ·obtain⟨b1,off1,rfl,hbb1,hcell1⟩:=gs.at_ (k:=k) (by rw[jB];omega)
   have hck1:=(hB.cell (p:=⟨b1,off1+k,none⟩) (Qac hbb1 hg)).trans ((hB0.cell (p:=⟨b1,off1+k,none⟩) hbb1).trans ((hcell1 k (by rw[jB];omega)).trans (jP bs k (by omega))));have hck2:=(hO.cell (off+k)).trans (jP L (off+k) (by omega));have hfr:=hO.free (off+k);have hwx:=ka hbok k;have hwz:=ka hI.out.2.1 (off+k)
   have Hst:=fun d c' a1 a2 a3=>Lib.hid (hI.out.step (d:=d) (c':=c') (by omega) hlen a1 a2 a3)
   generalize bs[k]?.getD 0=x at *;generalize L[off+k]?.getD 0=z at *;obtain⟨hi,lo,l1,o1,d,o2,m1,m2,m3,m4,m5,m6,m7,m8,m9,m10,m11⟩:=SW x f c z hwx hfw hcw hwz;have Hs2:=Hst d (hi+o1+o2) m8 m10 m11;have HMul:=Lib.hid (fun w=>QB x f hi lo w hwx hfw m1 m2)
   have ha1:∀w,(callFunc 103 #[.int .u64 (lo:Int),.int .u64 (c:Int),.int .u64 0]).run Tryz.prog w = .ok (.value (.tuple #[.int .u64 (l1:Int),.int .u64 (o1:Int)])) w:=by
    intro w;have:=Qi (lo:Int) (c:Int) (by omega) (by unfold WB at m2;omega) (by omega) (by unfold WB at hcw;omega) w;rw[show ((lo:Int)+c)%18446744073709551616=l1 from by unfold WB at *;omega,show ((lo:Int)+c)/18446744073709551616=o1 from by unfold WB at *;omega] at this;exact this
   have ha2:∀w,(callFunc 103 #[.int .u64 (z:Int),.int .u64 (l1:Int),.int .u64 0]).run Tryz.prog w = .ok (.value (.tuple #[.int .u64 (d:Int),.int .u64 (o2:Int)])) w:=by
    intro w;have:=Qi (z:Int) (l1:Int) (by omega) (by unfold WB at hwz;omega) (by omega) (by unfold WB at m4;omega) w;rw[show ((z:Int)+l1)%18446744073709551616=d from by unfold WB at *;omega,show ((z:Int)+l1)/18446744073709551616=o2 from by unfold WB at *;omega] at this;exact this
   have hb1:(hi:Int)+o1≤18446744073709551615:=by unfold WB at *;omega
   have hb2:(hi:Int)+o1+o2≤18446744073709551615:=by unfold WB at *;omega
   clear hcell1 gs hLl m1 m2 m3 m4 m5 m6 m7 m8 m9 m10 m11 Hst hwx hwz hcw;have Ha1:=Lib.hid ha1;have Ha2:=Lib.hid ha2;clear ha1 ha2
   go_wp2_with (first | (go_at_call 102;refine(HMul.out _).mono ?_;rintro e w' ⟨rfl,rfl⟩) | (simp only[Ha1.out]) | (simp only[Ha2.out]))
   refine⟨⟨k+1,hi+o1+o2,_,by go_num,by simp,by omega,Hs2,?_,hB.setCell (by simp) _⟩,by simp[intOf];omega⟩;rw[←kN];exact hO.put (off+k) _
  ·have hkk:k=bs.length:=by omega
   subst hkk;have HI:=hI.out;have HH:=Lib.hid HI;clear HI
   go_wp2
   go_ret;exact⟨c,L,rfl,HH.out,hO,hB⟩
theorem Q4 (v u:Value) (x y:Nat) (w:World) (h:Nt w v x) (h':Nt w u y) (hf:jp x) (hg:jp y):
  Calls Tryz.prog 143 #[v,u] w fun e w'=>∃v,e = .returned v∧Nt w' v (x*y)∧Below w.heap.size w w':=by
 by_cases hx1:x=1
 ·subst hx1
  rw[Qbd];obtain⟨ws,A,c,hv,_⟩:=h.open_;obtain⟨us,B,d,hu,_⟩:=h'.open_;have Hh:=Lib.hid h;clear h;have Hh':=Lib.hid h';clear h';subst hv hu;go_enter Tryz.func143,Tryz.ntmps143
  go_wp2_with (first | (go_at_call 58;refine(qf _ _ _ Hh.out).mono ?_;rintro e w' ⟨rfl,rfl⟩))
  go_ret;exact⟨_,rfl,Hh'.out,Below.refl _ _⟩
 ·have hd1:=Lib.hid (Qat hx1)
  by_cases hy1:y=1
  ·subst hy1
   rw[Qbr];obtain⟨ws,A,c,hv,_⟩:=h.open_;obtain⟨us,B,d,hu,_⟩:=h'.open_;have Hh:=Lib.hid h;clear h;have Hh':=Lib.hid h';clear h';subst hv hu;have hn:=Lib.hid hx1;clear hx1;go_enter Tryz.func143,Tryz.ntmps143
   go_wp2_with fail
   refine(qf _ _ _ Hh.out).mono ?_;rintro e w' ⟨rfl,rfl⟩;rw[hd1.out]
   go_wp2_with fail
   refine(qf _ _ _ Hh'.out).mono ?_;rintro e w' ⟨rfl,rfl⟩
   go_wp2
   go_ret;exact⟨_,rfl,Hh.out,Below.refl _ _⟩
  ·have hd2:=Lib.hid (Qat hy1)
   obtain⟨xs,A,c,rfl,h1,h2,h3,hc1,hc2,hs⟩:=h.open_;obtain⟨bs,B,d,rfl,g1,g2,g3,gc1,gc2,gs⟩:=h'.open_;have hlen:=jp.len h3 h1 hf;have glen:=jp.len g3 g1 hg;have Hh:=Lib.hid h;clear h;have Hh':=Lib.hid h';clear h';have hmk:=yK w (xs.length+bs.length) (by omega);rw[show ((xs.length+bs.length:Nat):Int)=(xs.length:Int)+bs.length from by omega] at hmk;clear hf hg hx1 hy1;have H1:=Lib.hid h1;clear h1;have G1:=Lib.hid g1;clear g1;go_enter Tryz.func143,Tryz.ntmps143
   go_wp2_with fail
   refine(qf _ _ _ Hh.out).mono ?_;rintro e w' ⟨rfl,rfl⟩;rw[hd1.out]
   go_wp2_with fail
   refine(qf _ _ _ Hh'.out).mono ?_;rintro e w' ⟨rfl,rfl⟩;rw[hd2.out]
   go_wp2
   go_loopw [6,7,22] (fun _ _ i wr=>∃(k:Nat) (L:List Nat),i = .int .i64 k∧k≤xs.length∧Hid (zy xs bs L k)∧ja wr w.heap.size 89 (jz L)∧Below w.heap.size w wr) (fun _ _ i _=>xs.length-(intOf i).toNat)
   case atStart=>exact⟨0,_,rfl,by omega,Lib.hid (zy.start xs bs),ja.make _ _ _,(Below.refl _ _).alloc (Nat.le_refl _) _⟩
   case round=>
    obtain⟨k,L,rfl,hk,hI,hO,hB⟩:=hrel;have hLl:L.length=xs.length+bs.length:=hI.out.1;by_cases hlt:k<xs.length
    ·obtain⟨b0,off,rfl,hbb,hcell⟩:=hs.at_ (k:=k) (by rw[jB];omega)
     have hck:=(hB.cell (p:=⟨b0,off+k,none⟩) hbb).trans ((hcell k (by rw[jB];omega)).trans (jP xs k (by omega)));have hwx:=ka h2 k
     have HSt:=fun L' c=>Lib.hid (zy.step (L':=L') (c:=c) hI.out hlt)
     generalize hxk:xs[k]?.getD 0=x at *;clear hcell hxk
     have hkl:k+bs.length<L.length:=by omega
     have hok:=hI.out.2.1;clear hLl
     go_wp2_with fail
     refine(SJ _ bs L x k w.heap.size _ _ wr w hwx hO hok rfl (by omega) g2 gs hB (Nat.le_refl _)).mono ?_;rintro e w1 ⟨cr,L',rfl,hA,hO',hB'⟩;have hl1:L'.length=L.length:=hA.1;have hck2:=(hO'.cell (k+bs.length)).trans (jP L' (k+bs.length) (by omega));generalize L'[k+bs.length]?.getD 0=z at *;have hfr:=hO'.free (k+bs.length);have Hs2:=(HSt L' cr).out hA;have HS2:=Lib.hid Hs2;clear hA Hs2 hl1 hkl
     go_wp2
     refine⟨⟨k+1,_,by go_num,by omega,HS2,?_,(hB.trans hB').setCell (by simp) _⟩,by simp[intOf];omega⟩;rw[←kN];exact hO'.put _ _
    ·have hkk:k=xs.length:=by omega
     subst hkk;have hval:=Lib.hid hI.out.last;have hok:=hI.out.2.1;have hsl:=Lib.hid (hO.sl (xs.length+bs.length) (by rw[jB];omega) (by omega));clear hLl
     go_wp2_with (go_at_call 104;refine(zP _ _ _ _ _ hok hsl.out).mono ?_;rintro e w' ⟨v,rfl,hv,rfl⟩)
     go_ret;refine⟨v,rfl,?_,hB⟩;rw[←H1.out,←G1.out,←hval.out];exact hv
def xh (x:Nat):Nat→Nat
 | 0=>x
 | k+1=>xh x k/(k+1)
def xy (x n:Nat):Nat→List Int
 | 0=>List.replicate n 0
 | k+1=>(xy x n k).set (n-1-k) ((xh x k%(k+1):Nat):Int)
theorem KG (x n k:Nat):(xy x n k).length=n:=by
 induction k with
 | zero=>simp[xy]
 | succ k ih=>simp[xy,ih]
theorem Dy (x k:Nat):xh x k≤x:=by
 induction k with
 | zero=>exact Nat.le_refl _
 | succ k ih=>exact Qap (QaW _ _) ih
theorem Nt.putI {w:World} {v:Value} {x g i:Nat} {t:TypeId} {L:List Int} (h:Nt w v x) (hO:ja w g t (je L)) (u:Value):Nt (w.setCell ⟨g,i,none⟩ u) v x:=by
 obtain⟨ws,h1,h2,h3,A,n,c,hv,h4,h5,h6,h7⟩:=h;refine⟨ws,h1,h2,h3,A,n,c,hv,h4,h5,h6,fun hn=> ?_⟩;obtain⟨b,off,hA,hb,hcell⟩:=h7 hn;refine⟨b,off,hA,by simpa using hb,fun j u hu=> ?_⟩;have hj:=hcell j u hu
 have hne:b≠g:=by
  rintro rfl;rw[hO.cell] at hj;obtain⟨z,_,hz⟩:=List.mem_map.1 (Qab hj);obtain⟨y,_,hy⟩:=List.mem_map.1 (Qab hu);rw[←hz] at hy;cases hy
 rw[World.cell?_setCell_other _ _ _ _ (by intro e;injection e with e1;exact hne e1.symm)];exact hj
def Dx (x n:Nat) (w:World) (e:Ending) (w':World):Prop:=
 ∃u v,e = .returned (.tuple #[u,v])∧Sl w' 1 u (je (xy x n n))∧Nt w' v (xh x n)∧Below w.heap.size w w'
theorem Dz (v:Value) (x n:Nat) (w:World) (h:Nt w v x) (hf:jp x) (hn:n≤256):
  Calls Tryz.prog 59 #[v,.int .i64 n] w (Dx x n w):=by
 have hmk:=fun W=>J7 W n (by omega)
 have HF:=Lib.hid (fun k=>jp.le hf (Dy x k));have h0:Nt (w.alloc (.cells (je (List.replicate n 0)).toArray 3)) v (xh x 0):=h.below ((Below.refl _ _).alloc (Nat.le_refl _) _);have hO0:=ja.make w 3 (je (List.replicate n 0));have hB0:=(Below.refl w.heap.size w).alloc (Nat.le_refl _) (.cells (je (List.replicate n 0)).toArray 3);have H0:=Lib.hid h0;clear h hf h0;go_enter Tryz.func59,Tryz.ntmps59
 go_wp2_with fail
 go_loopg [0,6,7] n (fun g u i _ wr=>∃(k:Nat),k+g=n∧i = .int .i64 ((n:Int)-1-k)∧Hid (Nt wr u (xh x k))∧ja wr w.heap.size 3 (je (xy x n k))∧Below w.heap.size w wr)
 case atStart=>exact⟨0,by omega,by go_num,H0,hO0,hB0⟩
 case round=>
  clear hO0 hB0 H0;obtain⟨k,hk,rfl,hN,hO,hB⟩:=hrel
  cases gk with
  | zero=>
   have hkn:k=n:=by omega
   have hsl:=Lib.hid (hO.sl n (by rw[ku,KG]) (by omega));rw[hkn] at hsl hN
   have hi:((n:Int)-1-(n:Int)) = -1:=by omega
   clear hk hO;subst hkn
   go_wp2
   go_ret2;exact⟨_,_,rfl,hsl.out,hN.out,hB⟩
  | succ g=>
   obtain⟨i,hi⟩:∃i:Nat,n=i+1+k:=⟨n-1-k,by omega⟩
   have hi2:((n:Int)-1-(k:Int))=i:=by omega
   rw[hi2]
   have hin:n-1-k=i:=by omega
   have hD:=Lib.hid (show xy x n (k+1)=(xy x n k).set (n-1-k) ((xh x k%(k+1):Nat):Int) from rfl);rw[hin] at hD
   have hsub:(n:Int)-i=(k:Int)+1:=by omega
   have hck:=(hO.cell i).trans (kz (xy x n k) i (by rw[KG];omega));have hfr:=hO.free i;have hmod:xh x k%(k+1)<256:=Qac (QaI _ (by omega)) (by omega)
   have hm2:xh x k%(k+1)<18446744073709551616:=by omega
   have hil:i<n:=by omega
   have hlo:i<256:=by omega
   have hk2:k<256:=by omega
   have hck':wr.cell? ⟨w.heap.size,i,none⟩=some (.int .i64 ((xy x n k)[i]?.getD 0)):=hck;have DW:=Qp u0 _ (k+1) wr hN.out (by omega) (by unfold WB;omega) (HF.out k);rw[Int.natCast_succ] at DW;have DW:=Lib.hid DW;have Hk:Hid (k+(g+1)=n):=Lib.hid hk;generalize hz:(xy x n k)[i]?.getD 0=z at *;clear hi hi2 hin hk hck' hz;generalize hm:xh x k%(k+1)=d at *;clear hm
   go_wp2_with fail
   refine DW.out.mono ?_;rintro e w2 ⟨u,rfl,hNu,hB2⟩;have hO2:=hO.below hB2 hO.lt;have hc2:=(hB2.cell (p:=⟨w.heap.size,i,none⟩) hO.lt).trans hck;have hf2:=(hB2.frozen (p:=⟨w.heap.size,i,none⟩) hO.lt).trans hfr;have hB':=hB.trans (hB2.mono hB.size);have HN2:Hid (Nt w2 u (xh x (k+1))):=Lib.hid hNu;clear hO hB hB2 hck hfr hN hNu
   go_wp2
   go_roundg g
   case rel=>exact⟨k+1,by have:=Hk.out;omega,by congr 1;omega,Lib.hid (HN2.out.putI hO2 _),by rw[hD.out,←x6];exact hO2.put _ _,hB'.setCell (by simp) _⟩
   case measure=>omega
theorem JI {x y:Nat} (h:x<y):kq x y = -1:=by unfold kq;rw[if_pos h]
theorem Kb {x y:Nat} (h:y≤x):0≤kq x y:=by unfold kq;rw[if_neg (by omega)];split <;> omega
theorem Nt.one_word {w:World} {v:Value} {y:Nat} (h:Nt w v y) (h0:0<y) (hw:y<WB):
  ∃b off c,v = .slice (some ⟨b,off,none⟩) 1 c∧b<w.heap.size∧w.cell? ⟨b,off,none⟩=some (.int .u64 (y:Int)):=by
 obtain⟨ws,A,c,rfl,h1,h2,h3,hc1,hc2,hs⟩:=h.open_;have hl:ws.length≤1:=K8 h3 (n:=1) (by rw[h1,Qbc];exact hw)
 have hne:ws≠[]:=by rintro rfl;simp[jd] at h1;omega
 have hl1:ws.length=1:=by have:=List.length_pos_iff.2 hne;omega
 obtain⟨z,rfl⟩:=List.length_eq_one_iff.1 hl1
 have hz:z=y:=by simpa [jd] using h1
 subst hz;obtain⟨b,off,rfl,hb,hcell⟩:=hs.at_ (k:=0) (by simp[jz]);exact⟨b,off,c,by simp,hb,by simpa [jz] using hcell 0 (by simp[jz])⟩
theorem Nt.zero_len {w:World} {v:Value} (h:Nt w v 0):∃A c,v = .slice A 0 c:=by
 obtain⟨ws,A,c,rfl,h1,h2,h3,hc1,hc2,hs⟩:=h.open_;have:ws=[]:=(PX h3).1 h1;subst this;exact⟨A,c,rfl⟩
theorem Nt.len_ge {w:World} {v:Value} {y:Nat} (h:Nt w v y) (hw:WB≤y):∃A n c,v = .slice A n c∧2≤n∧n≤140737488355328:=by
 obtain⟨ws,A,c,rfl,h1,h2,h3,hc1,hc2,hs⟩:=h.open_;refine⟨A,ws.length,c,rfl,?_,by omega⟩;rcases Qae ws.length 2 with hl | hl
 ·have:=xj h2
  have h4:WB^ws.length≤WB^1:=Qai (by decide) (by omega);rw[Qbc] at h4;omega
 ·exact hl
theorem Nt.size_ {w:World} {v:Value} {y:Nat} (h:Nt w v y):∃A n c,v = .slice A n c∧n≤140737488355328:=by
 obtain⟨ws,A,c,rfl,h1,h2,h3,hc1,hc2,hs⟩:=h.open_;exact⟨A,ws.length,c,rfl,by omega⟩
def XF (x y:Nat) (w:World) (e:Ending) (w':World):Prop:=∃q r,e = .returned (.tuple #[q,r])∧Nt w' q (x/y)∧Nt w' r (x%y)∧Below w.heap.size w w'
theorem NY (v u:Value) (x y:Nat) (w:World) (h:Nt w v x) (h':Nt w u y) (hy:0<y) (hf:jp x):
  Calls Tryz.prog 128 #[v,u] w (XF x y w):=by
 by_cases hlt:x<y
 ·have ho:=Lib.hid (JI hlt)
  have hq:x/y=0:=Qbt hlt;have hm:x%y=x:=Qbm hlt;unfold XF;rw[hq,hm];clear hq hm;obtain⟨A,n,c,hv,_⟩:=h.size_;obtain⟨B,m,d,hu,_⟩:=h'.size_;have Hh:=Lib.hid h;clear h;have Hh':=Lib.hid h';clear h';subst hv hu;go_enter Tryz.func128,Tryz.ntmps128
  go_wp2_with (first | (go_at_call 125;refine(xq _ _ _ _ _ Hh.out Hh'.out).mono ?_;rintro e w' ⟨rfl,n,rfl⟩;rw[ho.out]))
  go_ret2;exact⟨_,_,rfl,Nt.nil,Hh.out.drewN _,below_drewN (Below.refl _ _) _⟩
 ·have ho:=Kb (Nat.not_lt.1 hlt)
  by_cases hw:y<WB
  ·obtain⟨A,n,c,hv,_⟩:=h.size_
   obtain⟨b,off,d,hu,hb,hcell⟩:=h'.one_word hy hw;have Hh:=Lib.hid h;clear h;have Hh':=Lib.hid h';clear h';subst hv hu;go_enter Tryz.func128,Tryz.ntmps128
   go_wp2_with fail
   refine(xq _ _ _ _ _ Hh.out Hh'.out).mono ?_;rintro e w' ⟨rfl,n,rfl⟩
   go_wp2_with fail
   refine(Qp _ x y _ (Hh.out.drewN n) hy hw hf).mono ?_;rintro e w1 ⟨q,rfl,hq,hB⟩;have hmw:x%y<WB:=Qac (QaI _ hy) (Qbo hw)
   go_wp2_with fail
   refine(Ka (x%y) _ hmw).mono ?_;rintro e w2 ⟨r,rfl,hr,hB2⟩
   go_wp2
   go_ret2;exact⟨q,r,rfl,hq.below hB2,hr,(below_drewN (Below.refl _ w) n).trans (hB.trans (hB2.mono hB.size))⟩
  ·obtain⟨A,n,c,hv,_⟩:=h.size_
   obtain⟨B,m,d,hu,hm2,_⟩:=h'.len_ge (Nat.not_lt.1 hw);have Hh:=Lib.hid h;clear h;have Hh':=Lib.hid h';clear h';subst hv hu
   have hb:((m:Int)==1)=false:=by simpa using (by omega:¬(m:Int)=1)
   go_enter Tryz.func128,Tryz.ntmps128
   go_wp2_with fail
   refine(xq _ _ _ _ _ Hh.out Hh'.out).mono ?_;rintro e w' ⟨rfl,n,rfl⟩
   go_wp2_with fail
   refine((hf.deep (by omega)).long _ _ x y _ (Hh.out.drewN n) (Hh'.out.drewN n) (Nat.not_lt.1 hw) (Nat.not_lt.1 hlt) hf.big).mono ?_;rintro e w1 ⟨q,r,rfl,hq,hr,hB⟩
   go_wp2
   go_ret2;exact⟨q,r,rfl,hq,hr,(below_drewN (Below.refl _ w) n).trans hB⟩
theorem JA (v u:Value) (x y:Nat) (w:World) (h:Nt w v x) (h':Nt w u y) (hy:0<y) (hf:jp x):
  Calls Tryz.prog 142 #[v,u] w fun e w'=>∃v,e = .returned v∧Nt w' v (x/y)∧Below w.heap.size w w':=by
 obtain⟨A,n,c,hv,_⟩:=h.size_;obtain⟨B,m,d,hu,_⟩:=h'.size_;have Hh:=Lib.hid h;clear h;have Hh':=Lib.hid h';clear h';subst hv hu;by_cases h1:y=1
 ·subst h1
  rw[Nat.div_one];go_enter Tryz.func142,Tryz.ntmps142
  go_wp2_with (first | (go_at_call 58;refine(qf _ _ _ Hh'.out).mono ?_;rintro e w' ⟨rfl,rfl⟩))
  go_ret;exact⟨_,rfl,Hh.out,Below.refl _ _⟩
 ·have hd:=Lib.hid (Qat h1)
  go_enter Tryz.func142,Tryz.ntmps142
  go_wp2_with fail
  refine(qf _ _ _ Hh'.out).mono ?_;rintro e w' ⟨rfl,rfl⟩;rw[hd.out]
  go_wp2_with fail
  refine(NY _ _ x y _ Hh.out Hh'.out hy hf).mono ?_;rintro e w1 ⟨q,r,rfl,hq,hr,hB⟩
  go_wp2
  go_ret;exact⟨q,rfl,hq,hB⟩
end Go.Proofs.YteagkgagdelklaaGreatDoor
namespace Go.Proofs.YteagkgagdelklaaGreatDoor
open Go.RowKit Go.Lib
theorem Gj (num:Int) (den g:Nat) (h1:(g:Int)∣num) (h2:g∣den) (h3:den/g≠0) (h4:(num/g).natAbs.Coprime (den/g)):(Rat.maybeNormalize num den g h1 h2 h3 h4).num=num/g∧(Rat.maybeNormalize num den g h1 h2 h3 h4).den=den/g:=by
 unfold Rat.maybeNormalize;split
 ·rename_i h;subst h;simp
 ·simp
theorem SN (p q:Rat):(p+q).num=(p.num*((q.den/Nat.gcd p.den q.den:Nat):Int)+q.num*((p.den/Nat.gcd p.den q.den:Nat):Int))/((Nat.gcd (p.num*((q.den/Nat.gcd p.den q.den:Nat):Int)+q.num*((p.den/Nat.gcd p.den q.den:Nat):Int)).natAbs (Nat.gcd p.den q.den):Nat):Int)
  ∧ (p+q).den=(p.den/Nat.gcd p.den q.den)*(q.den/Nat.gcd (p.num*((q.den/Nat.gcd p.den q.den:Nat):Int)+q.num*((p.den/Nat.gcd p.den q.den:Nat):Int)).natAbs (Nat.gcd p.den q.den)):=by
 change (Rat.add p q).num=_∧(Rat.add p q).den=_;unfold Rat.add;dsimp only;have hgq:Nat.gcd p.den q.den∣q.den:=Qb6 _ _;split
 ·rename_i h1
  simp[h1]
 ·rename_i h1
  have hcg:=Qb6 (p.num*((q.den/Nat.gcd p.den q.den:Nat):Int)+q.num*((p.den/Nat.gcd p.den q.den:Nat):Int)).natAbs (Nat.gcd p.den q.den);have hcq:=Nat.dvd_trans hcg hgq;refine⟨(Gj _ _ _ _ _ _ _).1,?_⟩;exact(Gj _ _ _ _ _ _ _).2.trans (Nat.mul_div_assoc _ hcq)
theorem Pe (na nb:Bool) (x y:Nat):sg (yt na x nb y).1 (yt na x nb y).2=sg na x+sg nb y:=by
 unfold yt;by_cases h1:na=nb
 ·subst h1;rw[if_pos rfl];cases na <;> simp[sg] <;> omega
 ·rw[if_neg h1]
  by_cases h2:x=y
  ·rw[if_pos h2];cases na <;> cases nb <;> simp_all [sg] <;> omega
  ·rw[if_neg h2]
   by_cases h3:y<x
   ·rw[if_pos h3];cases na <;> cases nb <;> simp_all [sg] <;> omega
   ·rw[if_neg h3];cases na <;> cases nb <;> simp_all [sg] <;> omega
theorem Er (na nb:Bool) (x y:Nat):(yt na x nb y).2=(sg na x+sg nb y).natAbs:=by
 rw[←Pe];unfold sg;split <;> simp
theorem Pf (na nb:Bool) (x y:Nat) (hx:na=true→x≠0) (hy:nb=true→y≠0):(yt na x nb y).1=decide (sg na x+sg nb y<0):=by
 unfold yt;by_cases h1:na=nb
 ·subst h1;rw[if_pos rfl];cases na <;> simp_all [sg] <;> omega
 ·rw[if_neg h1]
  by_cases h2:x=y
  ·rw[if_pos h2];cases na <;> cases nb <;> simp_all [sg] <;> omega
  ·rw[if_neg h2]
   by_cases h3:y<x
   ·rw[if_pos h3];cases na <;> cases nb <;> simp_all [sg] <;> omega
   ·rw[if_neg h3];cases na <;> cases nb <;> simp_all [sg] <;> omega
def Rt (w:World) (v:Value) (q:Rat):Prop:=∃nv dv,v = .agg #[.bool (decide (q.num<0)),nv,dv]∧Nt w nv q.num.natAbs∧Nt w dv q.den
theorem Rt.below {w w':World} {v:Value} {q:Rat} (h:Rt w v q) (hb:Below w.heap.size w w'):Rt w' v q:=by
 obtain⟨nv,dv,hv,h1,h2⟩:=h;exact⟨nv,dv,hv,h1.below hb,h2.below hb⟩
def j9 (neg:Bool) (n d:Nat):Rat:=if neg then mkRat (-(n:Int)) d else mkRat n d
theorem KJ {n:Int} {d:Nat} (hd:d≠0) (hc:Nat.gcd n.natAbs d=1):(mkRat n d).num=n∧(mkRat n d).den=d:=by
 rw[←Rat.mk_eq_mkRat n d hd hc];exact⟨rfl,rfl⟩
theorem Rt.mk_ {w:World} {neg:Bool} {nv dv:Value} {n d:Nat} (hd:d≠0) (hc:Nat.gcd n d=1) (hn:neg=true→n≠0) (h1:Nt w nv n) (h2:Nt w dv d):
  Rt w (.agg #[.bool neg,nv,dv]) (j9 neg n d):=by
 unfold j9
 cases neg with
 | false=>
  obtain⟨e1,e2⟩:=KJ (n:=(n:Int)) hd (by simpa using hc);refine⟨nv,dv,?_,?_,?_⟩
  ·simp only[Bool.false_eq_true,Qcf,e1]
   rw[show decide ((n:Int)<0)=false from by simp]
  ·simp only[Bool.false_eq_true,Qcf,e1];simpa using h1
  ·simp only[Bool.false_eq_true,Qcf,e2];exact h2
 | true=>
  obtain⟨e1,e2⟩:=KJ (n:=-(n:Int)) hd (by simpa using hc);have:=hn rfl;refine⟨nv,dv,?_,?_,?_⟩
  ·simp only[if_true,e1]
   rw[show decide (-(n:Int)<0)=true from by simp;omega]
  ·simp only[if_true,e1];simpa using h1
  ·simp only[if_true,e2];exact h2
theorem Rt.open_ {w:World} {v:Value} {q:Rat} (h:Rt w v q):∃neg nv dv n d,v = .agg #[.bool neg,nv,dv]∧Nt w nv n∧Nt w dv d∧d≠0∧Nat.gcd n d=1∧(neg=true→n≠0)∧q=j9 neg n d∧neg=decide (q.num<0)∧n=q.num.natAbs∧d=q.den:=by
 obtain⟨nv,dv,hv,h1,h2⟩:=h;refine⟨_,nv,dv,_,_,hv,h1,h2,q.den_nz,q.reduced,?_,?_,rfl,rfl,rfl⟩
 ·intro hn;have:=QaL hn;omega
 ·unfold j9
  by_cases hq:q.num<0
  ·rw[if_pos (by simpa using hq),show -(q.num.natAbs:Int)=q.num from by omega];exact(Rat.mkRat_self q).symm
  ·rw[if_neg (by simpa using hq),show (q.num.natAbs:Int)=q.num from by omega];exact(Rat.mkRat_self q).symm
theorem qi (l dg:List UInt8) (neg:Bool) (w:World) (h1:hasPrefix l [45]=neg) (h2:trimPrefix l [45]=dg):
  Calls Tryz.prog 77 #[.string ⟨l.toArray⟩,.string ⟨#[45]⟩] w fun e w'=>e = .returned (.tuple #[.string ⟨dg.toArray⟩,.bool neg])∧w=w':=by
 refine(Tryz.strings_CutPrefix ⟨l.toArray⟩ ⟨#[45]⟩ w).mono fun e w' ⟨h3,h4⟩=>⟨?_,h4.symm⟩
 rw[h3,←h1,←h2]
theorem qj (l a b:List UInt8) (f:Bool) (w:World) (h:cut l [47]=(a,b,f)) (hl:l.length<4294967281) (hG:jK w):
  Calls Tryz.prog 78 #[.string ⟨l.toArray⟩,.string ⟨#[47]⟩] w fun e w'=>e = .returned (.tuple #[.string ⟨a.toArray⟩,.string ⟨b.toArray⟩,.bool f]) ∧ ∃n,w'=w.drewN n:=by
 obtain⟨_,m,_,hm⟩:=hG;have:=Tryz.strings_Cut ⟨l.toArray⟩ ⟨#[47]⟩ m w (by simpa [ByteArray.size] using hl) hm;simpa [h] using this
theorem kA (l:List UInt8) (w:World) (h:jF l) (hl:l.length<4294967281):
  Calls Tryz.prog 79 #[.string ⟨l.toArray⟩] w fun e w'=>e = .returned (.bool true)∧Below w.heap.size w w':=by
 refine(WH ⟨l.toArray⟩ w (by simp[ByteArray.size];omega)).mono ?_;rintro e w' ⟨b,rfl,hb,hB⟩;exact⟨by rw[hb.2 (by simpa using h)],hB⟩
theorem KI (l:List UInt8) (w:World) (h:¬jF l) (hl:l.length<4294967281):
  Calls Tryz.prog 79 #[.string ⟨l.toArray⟩] w fun e w'=>e = .returned (.bool false)∧Below w.heap.size w w':=by
 refine(WH ⟨l.toArray⟩ w (by simp[ByteArray.size];omega)).mono ?_;rintro e w' ⟨b,rfl,hb,hB⟩;refine⟨?_,hB⟩
 cases b with
 | false=>rfl
 | true=>exact absurd (by simpa using hb.1 rfl) h
theorem ja.three {w:World} {g:Nat} {t:TypeId} {a b c:Value} (h:ja w g t [a,b,c]):
  w.cell? ⟨g,0,none⟩=some a∧w.cell? ⟨g,1,none⟩=some b∧w.cell? ⟨g,2,none⟩=some c∧w.frozen? ⟨g,0,none⟩=false∧w.frozen? ⟨g,1,none⟩=false∧w.frozen? ⟨g,2,none⟩=false:=
 ⟨h.cell 0,h.cell 1,h.cell 2,h.free 0,h.free 1,h.free 2⟩
def ko (c:Value):Prop:=∀k n,c ≠ .int k n
theorem ju (b:Bool):ko (.bool b):=by intro k n h;cases h
theorem jr (A:Option Addr) (n c:Nat):ko (.slice A n c):=by intro k n h;cases h
theorem Nt.noInt {w:World} {v:Value} {x:Nat} (h:Nt w v x):ko v:=by
 obtain⟨A,n,c,rfl,_⟩:=h.size_;exact jr _ _ _
theorem Nt.put {w:World} {v:Value} {x g i:Nat} {t:TypeId} {cs:List Value} (h:Nt w v x) (hO:ja w g t cs) (hc:∀c∈cs,ko c) (u:Value):Nt (w.setCell ⟨g,i,none⟩ u) v x:=by
 obtain⟨ws,h1,h2,h3,A,n,c,hv,h4,h5,h6,h7⟩:=h;refine⟨ws,h1,h2,h3,A,n,c,hv,h4,h5,h6,fun hn=> ?_⟩;obtain⟨b,off,hA,hb,hcell⟩:=h7 hn;refine⟨b,off,hA,by simpa using hb,fun j u hu=> ?_⟩;have hj:=hcell j u hu
 have hne:b≠g:=by
  rintro rfl;rw[hO.cell] at hj;have hm:=hc u (Qab hj);obtain⟨y,_,hy⟩:=List.mem_map.1 (Qab hu);exact hm _ _ hy.symm
 rw[World.cell?_setCell_other _ _ _ _ (by intro e;injection e with e1;exact hne e1.symm)];exact hj
theorem Nt.put3 {w:World} {v:Value} {x g:Nat} {t:TypeId} {a b c a' b' c':Value} (h:Nt w v x) (hO:ja w g t [a,b,c]) (ha:ko a) (hb:ko b) (hc:ko c) (ha':ko a') (hb':ko b'):
  Nt (((w.setCell ⟨g,0,none⟩ a').setCell ⟨g,1,none⟩ b').setCell ⟨g,2,none⟩ c') v x:=by
 have h1:=h.put (i:=0) hO (by simp only[QbC,QbJ,or_false];rintro c (rfl | rfl | rfl) <;> assumption) a';have hO1:=hO.put 0 a';have h2:=h1.put (i:=1) hO1 (by simp only[List.set,QbC,QbJ,or_false];rintro c (rfl | rfl | rfl) <;> assumption) b';have hO2:=hO1.put 1 b';exact h2.put (i:=2) hO2 (by simp only[List.set,QbC,QbJ,or_false];rintro c (rfl | rfl | rfl) <;> assumption) c'
theorem Rt.put3 {w:World} {v:Value} {q:Rat} {g:Nat} {t:TypeId} {a b c a' b' c':Value} (h:Rt w v q) (hO:ja w g t [a,b,c]) (ha:ko a) (hb:ko b) (hc:ko c) (ha':ko a') (hb':ko b'):
  Rt (((w.setCell ⟨g,0,none⟩ a').setCell ⟨g,1,none⟩ b').setCell ⟨g,2,none⟩ c') v q:=by
 obtain⟨nv,dv,hv,h1,h2⟩:=h;exact⟨nv,dv,hv,h1.put3 hO ha hb hc ha' hb',h2.put3 hO ha hb hc ha' hb'⟩
theorem Nt.one (w:World) (t:TypeId):Nt (w.alloc (.cells #[.int .u64 1] t)) (.slice (some ⟨w.heap.size,0,none⟩) 1 1) 1:=
 ⟨[1],rfl,EZ.2 (by decide),rfl,Sl.lit w t #[.int .u64 1] 1 rfl (by omega)⟩
def kd:Value:= .agg #[.bool false,.slice none 0 0,.slice none 0 0]
theorem jp.digits {x:Nat} (h:jp x):nDigits x≤160000000000001:=by
 have:=Ck x zG h.big;have:=XP;omega
theorem KD:10000000000000000000<WB:=by decide
theorem ME (c:Nat) (w:World) (hc:c≤19):
  Calls Tryz.prog 141 #[.string ⟨#[48]⟩,.int .i64 c] w fun e w'=>e = .returned (.string ⟨(List.replicate c 48).toArray⟩)∧Below w.heap.size w w':=by
 have h:=Tryz.strings_Repeat ⟨#[48]⟩ c w (by omega) (by show 1*c≤_;omega)
 refine h.mono fun e w' ⟨h1,h2⟩=>⟨?_,h2⟩
 rw[h1]
 show Ending.returned (.string ⟨(repeatL [48] c).toArray⟩)=_
 rw[L1]
def Xf (x y:Nat) (acc:List UInt8):Prop:=decDigits x=decDigits y++acc∧(y=0→acc=[])∧y≤x
theorem Xf.step {x y:Nat} {acc:List UInt8} (h:Xf x y acc) (hy:10000000000000000000≤y):
  Xf x (y/10000000000000000000) (List.replicate (19-nDigits (y%10000000000000000000)) 48++decDigits (y%10000000000000000000)++acc):=by
 obtain⟨h1,h2,h3⟩:=h;obtain⟨d1,d2,d3⟩:=VK y hy;refine⟨by rw[h1,d1];simp,fun h=>by omega,?_⟩;exact Qap (QaW _ _) h3
theorem EA (v:Value) (x:Nat) (w:World) (h:Nt w v x) (hf:jp x) (hG:jK w):
  Calls Tryz.prog 96 #[v] w fun e w'=>e = .returned (.string ⟨(decDigits x).toArray⟩)∧Below w.heap.size w w':=by
 obtain⟨A0,n0,c0,hv,hn0⟩:=h.size_;have hdig:=hf.digits;have Hh:=hid h;clear h;subst hv;have HF:=hid hf;clear hf;go_enter Tryz.func96,Tryz.ntmps96
 go_wp2
 go_loopg [0,3,4,5,6] x (fun g a d _ _ _ wr=>∃acc:List UInt8,Hid (Nt wr a g)∧d = .string ⟨acc.toArray⟩∧Hid (Xf x g acc)∧Below w.heap.size w wr)
 case atStart=>exact⟨[],Hh,rfl,hid ⟨by simp,fun _=>rfl,Nat.le_refl _⟩,Below.refl _ _⟩
 case round=>
  obtain⟨acc,hN,rfl,hI,hB⟩:=hrel
  have hacc:acc.length≤160000000000001:=by
   have:=congrArg List.length hI.out.1;rw[Qaf,decDigits_length] at this;omega
  have hGr:=hid (hG.below hB);by_cases hc:10000000000000000000≤gk
  ·have hst:=hid (hI.out.step hc)
   obtain⟨d1,d2,d3⟩:=VK gk hc;have hlt:gk/10000000000000000000<gk:=Nat.div_lt_self (by omega) (by decide);have hfit:=hid (HF.out.le hI.out.2.2);have hrw:gk%10000000000000000000<WB:=Nat.lt_trans (QaI _ (by decide)) KD;have hDiv:=hid (fun w h=>Qp u0 gk 10000000000000000000 w h (by decide) KD hfit.out);have hFmt:=hid (fun w h=>Wp (gk%10000000000000000000) w hrw h);have hlen:(decDigits (gk%10000000000000000000)).length=nDigits (gk%10000000000000000000):=decDigits_length _;generalize gk%10000000000000000000=r at *;generalize gk/10000000000000000000=q at *;by_cases hw:gk<WB
   ·obtain⟨b,off,c1,hv1,hb1,hcell⟩:=hN.out.one_word (by omega) hw
    have hcI:(10000000000000000000:Int)≤(gk:Int):=by omega
    clear d1 hw hc;subst hv1
    go_wp2_with fail
    refine(hDiv.out _ hN.out).mono ?_;rintro e w1 ⟨q',rfl,hq,hB1⟩
    go_wp2_with fail
    refine(hFmt.out _ (hGr.out.below hB1)).mono ?_;rintro e w2 ⟨rfl,hB2⟩
    go_wp2_with fail
    rw[show (19:Int)-(nDigits r:Int)=((19-nDigits r:Nat):Int) from by omega];refine(ME _ _ (by omega)).mono ?_;rintro e w3 ⟨rfl,hB3⟩
    go_wp2
    go_roundg q
    case measure=>exact hlt
    case rel=>
     refine⟨_,hid ((hq.below hB2).below hB3),?_,hst,hB.trans ((hB1.trans ((hB2.trans (hB3.mono hB2.size)).mono hB1.size)).mono hB.size)⟩;rw[←List.toArray_replicate,ByteArray.mk_append_mk,ByteArray.mk_append_mk]
   ·obtain⟨A1,n1,c1,hv1,hn1,hn2⟩:=hN.out.len_ge (Nat.not_lt.1 hw)
    clear d1 hw hc
    have hcI:(1:Int)<(n1:Int):=by omega
    subst hv1
    go_wp2_with fail
    refine(hDiv.out _ hN.out).mono ?_;rintro e w1 ⟨q',rfl,hq,hB1⟩
    go_wp2_with fail
    refine(hFmt.out _ (hGr.out.below hB1)).mono ?_;rintro e w2 ⟨rfl,hB2⟩
    go_wp2_with fail
    rw[show (19:Int)-(nDigits r:Int)=((19-nDigits r:Nat):Int) from by omega];refine(ME _ _ (by omega)).mono ?_;rintro e w3 ⟨rfl,hB3⟩
    go_wp2
    go_roundg q
    case measure=>exact hlt
    case rel=>
     refine⟨_,hid ((hq.below hB2).below hB3),?_,hst,hB.trans ((hB1.trans ((hB2.trans (hB3.mono hB2.size)).mono hB1.size)).mono hB.size)⟩;rw[←List.toArray_replicate,ByteArray.mk_append_mk,ByteArray.mk_append_mk]
  ·by_cases h0:gk=0
   ·subst h0
    obtain⟨A1,c1,hv1⟩:=hN.out.zero_len
    have hfin:decDigits x=[48]:=by
     have e:=hI.out.1;have h48:decDigits 0=[48]:=decDigits_one (by omega);rw[hI.out.2.1 rfl,h48] at e;exact e
    have Hfin:=hid hfin;clear hfin;subst hv1
    go_wp2
    go_ret;exact⟨by rw[Hfin.out];rfl,hB⟩
   ·obtain⟨b,off,c1,hv1,hb1,hcell⟩:=hN.out.one_word (by omega) (by have:=KD;omega)
    have hFmt:=hid (fun w h=>Wp gk w (by have:=KD;omega) h)
    have hlen:(decDigits gk).length≤160000000000001:=by
     have:=congrArg List.length hI.out.1;rw[Qaf,decDigits_length x] at this;omega
    have hcI:¬(10000000000000000000:Int)≤(gk:Int):=by omega
    have hd:decide ((10000000000000000000:Int)≤(gk:Int))=false:=by simpa using hcI
    subst hv1
    go_wp2_with fail
    refine(hFmt.out _ hGr.out).mono ?_;rintro e w1 ⟨rfl,hB1⟩
    go_wp2
    go_ret;refine⟨?_,hB.trans (hB1.mono hB.size)⟩;rw[hI.out.1,←ByteArray.mk_append_mk];rfl
