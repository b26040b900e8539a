/- Contracts of the reference: products of digits. -/
import Derived.Test.YtneafcdfnhnpnaaGreatDoorZK19
set_option maxRecDepth 100000
set_option maxHeartbeats 4000000
namespace Go.Proofs.YtneafcdfnhnpnaaGreatDoor
open Go.RowKit Go.Lib
def QU (x:Nat) (w:World) (e:Ending) (w':World):Prop:=∃v,e = .returned v∧Dg w' v x∧Below w.heap.size w w'
theorem yB.zero {xs bs L L':List Nat} {k f c:Nat} (h:yB xs bs L k) (ha:ym bs L L' f k bs.length c):L'[k+bs.length]?.getD 0=0:=by
 obtain⟨h1,h2,h3,h4⟩:=h;obtain⟨a1,a2,a3,a4,a5⟩:=ha
 have:L'.drop (k+bs.length)=List.replicate (xs.length-k) 0:=by rw[a3,h4]
 have e:(L'.drop (k+bs.length))[0]?.getD 0=L'[k+bs.length]?.getD 0:=by simp
 rw[←e,this,List.getElem?_replicate]
 split <;> rfl
theorem NT (a b z c:Nat) (ha:a<B9) (hb:b<B9) (hz:z<B9) (hc:c<B9):a*b<1000000000000000000∧(z+a*b+c)/B9<B9∧(z+a*b+c)%B9+B9*((z+a*b+c)/B9)=z+c+b*a:=by
 have h1:a*b≤(B9-1)*(B9-1):=Nat.mul_le_mul (by omega) (by omega);rw[Nat.mul_comm b a];generalize a*b=p at *;unfold B9 at *;omega
theorem Kd (v u:Value) (x y:Nat) (w:World) (hv:Dg w v x) (hu:Dg w u y) (hx:jN x) (hy:jN y):
  Calls Tryz.prog 187 #[v,u] w (QU (x*y) w):=by
 obtain⟨p,A,c,rfl,e1,o1,n1,l1,l2,s1⟩:=hv.open_;obtain⟨q,B,d,rfl,e2,o2,n2,m1,m2,s2⟩:=hu.open_;have hp6:=hx.len n1 e1;have hq6:=hy.len n2 e2;have hmk:=Jx w (p.length+q.length) (by omega);rw[show ((p.length+q.length:Nat):Int)=(p.length:Int)+q.length from by omega] at hmk;have HO0:Hid (ja (w.alloc (.cells (jc (List.replicate (p.length+q.length) 0)).toArray 3)) w.heap.size 3 (jp (List.replicate (p.length+q.length) 0))):=hid (by rw[Zb];exact ja.make _ _ _);have HB0:Hid (Below w.heap.size w (w.alloc (.cells (jc (List.replicate (p.length+q.length) 0)).toArray 3))):=hid ((Below.refl _ _).alloc (Nat.le_refl _) _);have HS1:=hid s1;have HS2:=hid s2;have HOK1:=hid o1;have HOK2:=hid o2;have HE:Hid (jb p*jb q=x*y):=hid (by rw[e1,e2]);clear hv hu s1 s2 o1 o2 e1 e2 n1 n2 hx hy;go_enter Tryz.func187,Tryz.ntmps187
 go_wp2_with fail
 go_loopg [6,7,8,9] p.length (fun g i _ _ _ wr=>∃(k:Nat) (L:List Nat),i = .int .i64 (k:Int)∧k+g=p.length∧Hid (yB p q L k)∧Hid (ja wr w.heap.size 3 (jp L))∧Hid (Below w.heap.size w wr))
 case atStart=>exact⟨0,_,rfl,by omega,hid (yB.start p q),HO0,HB0⟩
 case round=>
  obtain⟨k,L,rfl,hk,hI,hO,hB⟩:=hrel;clear HO0 HB0 hmk
  cases gk with
  | zero=>
   have hkk:k=p.length:=by omega
   subst hkk;have hl:L.length=p.length+q.length:=hI.out.1;have TR:=hid (XP (p.length+q.length) hl.symm hO.out hI.out.2.1 (by omega));rw[hI.out.last,HE.out] at TR;clear hI hl hk
   go_wp2_with fail
   refine TR.out.mono ?_;rintro e w2 ⟨rv,rfl,hq,rfl⟩;have HQ:=hid hq;clear hq
   go_wp2
   go_ret;exact⟨rv,rfl,HQ.out,hB.out⟩
  | succ g=>
   have hlt:k<p.length:=by omega
   obtain⟨b1,off1,rfl,hbb1,hcell1⟩:=HS1.out.at_ (k:=k) (by rw[j9];omega);have hpk:=hid ((hcell1 k (by rw[j9];omega)).trans (qa p k hlt));have hak:=kI HOK1.out k;have hLl:L.length=p.length+q.length:=hI.out.1;have HST:=hid (fun L' c (h:ym q L L' (p[k]?.getD 0) k q.length c)=>hI.out.step hlt h);have HZ:=hid (fun L' c (h:ym q L L' (p[k]?.getD 0) k q.length c)=>hI.out.zero h);have HA0:=hid (ym.start (bs:=q) (p[k]?.getD 0) k hI.out.2.1);generalize p[k]?.getD 0=a at *;clear hcell1 hI
   go_wp2_with fail
   obtain⟨wo,rfl⟩:∃wo:World,wo=wr:=⟨_,rfl⟩
   go_loopg [7,8,9] q.length (fun h cr kk _ wr=>∃(m c:Nat) (L':List Nat),cr = .int .i64 (c:Int)∧kk = .int .i64 (m:Int)∧m+h=q.length∧Hid (ym q L L' a k m c)∧Hid (ja wr w.heap.size 3 (jp L'))∧Hid (Below w.heap.size w wr))
   case atStart=>exact⟨0,0,L,rfl,rfl,by omega,HA0,hO,hB⟩
   case round=>
    clear hO hB;obtain⟨m,cy,L',rfl,rfl,hm,hA,hO,hB⟩:=hrel;have hl':L'.length=L.length:=hA.out.1;have hcy:cy<B9:=hA.out.2.2.2.1
    cases gk with
    | zero=>
     have hmm:m=q.length:=by omega
     subst hmm;have hz:=HZ.out _ _ hA.out;have HN:=hid (HST.out _ _ hA.out);have hck:=(hO.out.cell (k+q.length)).trans (qa L' (k+q.length) (by omega));rw[hz] at hck;have hfr:=hO.out.free (k+q.length);have HO2:Hid (ja (wr.setCell ⟨w.heap.size,k+q.length,none⟩ (.int .i64 (cy:Int))) w.heap.size 3 (jp (L'.set (k+q.length) cy))):=hid (by rw[←zD];exact hO.out.put _ _);have HB2:=hid (hB.out.setCell (p:=⟨w.heap.size,k+q.length,none⟩) (Nat.le_refl _) (.int .i64 (cy:Int)))
     have hcI:(cy:Int)<1000000000:=by unfold B9 at hcy;omega
     clear hA hz HZ HST
     go_wp2
     go_roundg g
     case rel=>exact⟨k+1,_,by go_num,by omega,HN,HO2,HB2⟩
     case measure=>omega
    | succ h=>
     have hmq:m<q.length:=by omega
     obtain⟨b2,off2,rfl,hbb2,hcell2⟩:=HS2.out.at_ (k:=m) (by rw[j9];omega);have hck1:=(hB.out.cell (p:=⟨b1,off1+k,none⟩) hbb1).trans hpk.out;have hck2:=(hB.out.cell (p:=⟨b2,off2+m,none⟩) hbb2).trans ((hcell2 m (by rw[j9];omega)).trans (qa q m hmq));have hck3:=(hO.out.cell (k+m)).trans (qa L' (k+m) (by omega));have hfr:=hO.out.free (k+m);have hbk:=kI HOK2.out m;have hzk:=kI hA.out.2.1 (k+m);have HN:=hid (fun d c' h1 h2 h3=>hA.out.step (d:=d) (c':=c') hmq (by omega) h1 h2 h3);generalize q[m]?.getD 0=b at *;generalize L'[k+m]?.getD 0=z at *;obtain⟨t1,t2,t3⟩:=NT a b z cy hak hbk hzk hcy
     obtain⟨ab,hab⟩:∃ab,a*b=ab:=⟨_,rfl⟩
     rw[hab] at t1 t2 t3
     have hzI:(z:Int)<1000000000:=by clear t2 t3;unfold B9 at hzk;omega
     have hcI:(cy:Int)<1000000000:=by clear t2 t3;unfold B9 at hcy;omega
     have haI:(ab:Int)<1000000000000000000:=by clear t2 t3;omega
     have hzw:wrap64 ((a:Int)*(b:Int))=(ab:Int):=by rw[←Int.natCast_mul,hab];exact IntWalk.wrap64_in _ (by clear t2 t3;omega)
     have t4:(z+ab+cy)%B9<B9:=Nat.mod_lt _ (by decide);have HS:=hid (HN.out _ _ t4 t2 t3)
     have Q1:((z:Int)+(ab:Int)+(cy:Int))/1000000000=(((z+ab+cy)/B9:Nat):Int):=by rw[Int.natCast_ediv,Int.natCast_add,Int.natCast_add];rfl
     have Q2:((z:Int)+(ab:Int)+(cy:Int))%1000000000=(((z+ab+cy)%B9:Nat):Int):=by rw[Int.natCast_emod,Int.natCast_add,Int.natCast_add];rfl
     have hb1:b1<wr.heap.size:=Nat.lt_of_lt_of_le hbb1 hB.out.size;have hb2:b2<wr.heap.size:=Nat.lt_of_lt_of_le hbb2 hB.out.size;have hwl:=hO.out.lt;clear hab t1 t2 t3 t4 HN hA hcell2 hak hbk hzk hcy;generalize (z+ab+cy)/B9=qd at *;generalize (z+ab+cy)%B9=rd at *;have HQ1:=hid Q1;have HQ2:=hid Q2;clear Q1 Q2;have Hk:=hid hk;have Hm:=hid hm
     have hidx:(k:Int)+(m:Int)<(p.length:Int)+(q.length:Int):=by omega
     have hkI:(k:Int)<(p.length:Int):=by omega
     have hmI:(m:Int)<(q.length:Int):=by omega
     clear hk hm hLl hl' hlt hmq hbb1 hbb2 hpk
     go_wp2_with fail
     go_quiet (fail)
     have HO2:Hid (ja ((wr.drewN nq).setCell ⟨w.heap.size,k+m,none⟩ (.int .i64 (rd:Int))) w.heap.size 3 (jp (L'.set (k+m) rd))):=hid (by rw[←zD];exact(hO.out.drewN nq).put _ _);have HB2:=hid ((below_drewN hB.out nq).setCell (p:=⟨w.heap.size,k+m,none⟩) (Nat.le_refl _) (.int .i64 (rd:Int)))
     go_wp2
     rw[HQ1.out,HQ2.out]
     go_roundg h
     case rel=>exact⟨m+1,qd,_,by go_num,by go_num,by have:=Hm.out;omega,HS,HO2,HB2⟩
     case measure=>omega
def Dv (us vs L Q:List Nat) (g:Nat):Prop:=L.length=us.length∧jG L∧Q.length+vs.length=us.length∧jG Q∧jb (L.drop g)<jb vs∧jb us=jb L+jb vs*(B9^g*jb (Q.drop g))
theorem Re (n:Nat):jb (List.replicate n 0)=0:=by
 induction n with
 | zero=>rfl
 | succ n ih=>simp[List.replicate_succ,jb,ih]
theorem Dv.start {us vs:List Nat} {M:Nat} (ou:jG us) (hl:M+vs.length=us.length) (h:jb (us.drop M)<jb vs):Dv us vs us (List.replicate M 0) M:=by
 refine⟨rfl,ou,by simp[hl],QK _,h,?_⟩;simp[jb]
theorem Dv.above {us vs L Q:List Nat} {j:Nat} (h:Dv us vs L Q (j+1)) (ov:jG vs):jb (L.drop (j+vs.length+1))=0:=by
 obtain⟨h1,h2,h3,h4,h5,h6⟩:=h;have hv:=qz ov;rcases Nat.lt_or_ge (L.drop (j+1)).length vs.length with hl | hl
 ·rw[List.drop_of_length_le (by rw[List.length_drop] at hl;omega)];rfl
 ·have h7:=xS (L.drop (j+1)) vs.length hl
  rw[List.drop_drop,show j+1+vs.length=j+vs.length+1 from by omega] at h7;generalize jb (L.drop (j+vs.length+1))=X at *;rcases Nat.eq_zero_or_pos X with h0 | h0
  ·exact h0
  ·have:B9^vs.length*1≤B9^vs.length*X:=Nat.mul_le_mul_left _ h0
   omega
theorem Dv.lt {us vs L Q:List Nat} {j:Nat} (h:Dv us vs L Q (j+1)) (hj:j<L.length):jb (L.drop j)<B9*jb vs:=by
 rw[x9 L j hj];have h1:=kI h.2.1 j;have h2:=h.2.2.2.2.1;have h3:B9*(jb (L.drop (j+1))+1)≤B9*jb vs:=Nat.mul_le_mul_left _ h2;rw[Nat.mul_add,Nat.mul_one] at h3;omega
theorem Dv.step {us vs L Q N:List Nat} {j t:Nat} (h:Dv us vs L Q (j+1)) (hj:j<Q.length) (hN:N.length=L.length) (oN:jG N) (hT:N.take j=L.take j)
  (e:jb (L.drop j)=jb vs*t+jb (N.drop j)) (hr:jb (N.drop j)<jb vs) (ht:t<B9):Dv us vs N (Q.set j t) j:=by
 obtain⟨h1,h2,h3,h4,h5,h6⟩:=h;refine⟨by omega,oN,by simpa using h3,zT h4 _ _ ht,hr,?_⟩;rw[h6,Js (Q.set j t) j (by simpa using hj),Ju _ _ _ hj,List.drop_set_of_lt (by omega),xS L j (by omega),xS N j (by omega),hT,e];simp only[jb];rw[Nat.pow_succ];simp only[Nat.mul_add]
 have q1:jb vs*(B9^j*B9*jb (List.drop (j+1) Q))=jb vs*(B9^j*(B9*jb (List.drop (j+1) Q))):=by rw[Nat.mul_assoc (B9^j)]
 have q2:B9^j*(jb vs*t)=jb vs*(B9^j*t):=by rw[←Nat.mul_assoc,Nat.mul_comm (B9^j),Nat.mul_assoc]
 omega
theorem Dv.last {us vs L Q:List Nat} (h:Dv us vs L Q 0):jb Q=jb us/jb vs∧jb L=jb us%jb vs:=by
 obtain⟨h1,h2,h3,h4,h5,h6⟩:=h;simp only[List.drop_zero,Nat.pow_zero,Nat.one_mul] at h5 h6
 have hp:0<jb vs:=by omega
 rw[h6];refine⟨?_,?_⟩
 ·rw[Nat.add_mul_div_left _ _ hp,Nat.div_eq_of_lt h5,Nat.zero_add]
 ·rw[Nat.add_mul_mod_self_left,Nat.mod_eq_of_lt h5]
theorem XT {L:List Nat} {j n:Nat} (hj:j+n<L.length) (h0:jb (L.drop (j+n+1))=0):jb (L.drop j)=jb ((L.drop j).take n)+B9^n*L[j+n]?.getD 0:=by
 rw[xS (L.drop j) n (by rw[List.length_drop];omega),List.drop_drop,x9 L (j+n) hj,h0];simp
theorem ZU {L:List Nat} (h:jG L) (j n:Nat):jb ((L.drop j).take n)<B9^n:=by
 have h1:=qz (zU (ws:=L.drop j) (fun x hx=>h x (List.mem_of_mem_drop hx)) n);have h2:B9^((L.drop j).take n).length≤B9^n:=Nat.pow_le_pow_right (by decide) (by rw[List.length_take];omega);omega
theorem H5 {L:List Nat} {j n x:Nat} (hj:j+n<L.length) (h0:jb (L.drop (j+n+1))=0):jb ((L.set (j+n) x).drop j)=jb ((L.drop j).take n)+B9^n*x:=by
 rw[XT (L:=L.set (j+n) x) (by simpa using hj) (by rw[List.drop_set_of_lt (by omega)];exact h0),Ju L _ _ hj]
 congr 2
 rw[List.drop_set,if_neg (by omega),show j+n-j=n from by omega,List.take_set_of_le (Nat.le_refl _)]
theorem Gr {L L':List Nat} {j X Y:Nat} (hl:L'.length=L.length) (ht:L'.take j=L.take j) (hj:j≤L.length) (h:jb L'+B9^j*X=jb L+B9^j*Y):jb (L'.drop j)+X=jb (L.drop j)+Y:=by
 rw[xS L' j (by omega),xS L j hj,ht] at h
 have h1:B9^j*(jb (L'.drop j)+X)=B9^j*(jb (L.drop j)+Y):=by rw[Nat.mul_add,Nat.mul_add];omega
 exact Nat.eq_of_mul_eq_mul_left (Nat.pow_pos (by decide)) h1
theorem U2 {L L':List Nat} {a:Nat} (h:L'.drop a=L.drop a):L'[a]?.getD 0=L[a]?.getD 0∧jb (L'.drop (a+1))=jb (L.drop (a+1)):=by
 have e1:(L'.drop a)[0]?.getD 0=(L.drop a)[0]?.getD 0:=by rw[h]
 have e2:(L'.drop a).drop 1=(L.drop a).drop 1:=by rw[h]
 simp only[List.drop_drop,List.getElem?_drop,Nat.add_zero] at e1 e2;exact⟨e1,by rw[e2]⟩
theorem xl.main {vs L L':List Nat} {t j br:Nat} (h:xl vs L L' t j vs.length br) (hj:j+vs.length<L.length) (h0:jb (L.drop (j+vs.length+1))=0):
  jb ((L'.drop j).take vs.length)+B9^vs.length*L[j+vs.length]?.getD 0+jb vs*t=jb (L.drop j)+B9^vs.length*br∧jb (L'.drop (j+vs.length+1))=0∧L'[j+vs.length]?.getD 0=L[j+vs.length]?.getD 0:=by
 obtain⟨h1,h2,h3,h4,h5,h6⟩:=h;obtain⟨d1,d2⟩:=U2 h4;rw[List.take_of_length_le (Nat.le_refl _),Nat.pow_add,Nat.mul_assoc] at h6;have h7:=Gr h1 h3 (by omega) h6;rw[XT (L:=L') (j:=j) (n:=vs.length) (by omega) (by rw[d2];exact h0),d1] at h7;exact⟨h7,by rw[d2];exact h0,d1⟩
theorem xl.fit {vs L L':List Nat} {t j br:Nat} (h:xl vs L L' t j vs.length br) (ov:jG vs) (hj:j+vs.length<L.length) (h0:jb (L.drop (j+vs.length+1))=0) (hD:yo B9 (jb (L.drop j)) (jb vs) t) (hge:br≤L[j+vs.length]?.getD 0):
  L[j+vs.length]?.getD 0=br∧jb (L.drop j)=jb vs*t+jb ((L'.set (j+vs.length) 0).drop j)∧jb ((L'.set (j+vs.length) 0).drop j)<jb vs:=by
 obtain⟨e,e0,e1⟩:=h.main hj h0;have hl:L'.length=L.length:=h.1;rw[H5 (by omega) e0,Nat.mul_zero,Nat.add_zero];obtain⟨d1,d2,d3⟩:=hD;rw[Nat.add_mul,Nat.one_mul,Nat.mul_comm t] at d3;have hv:=qz ov;generalize L[j+vs.length]?.getD 0=z at *;generalize jb ((L'.drop j).take vs.length)=W at *
 have hz:z=br:=by
  rcases Nat.lt_or_ge br z with h1 | h1
  ·have:B9^vs.length*(br+1)≤B9^vs.length*z:=Nat.mul_le_mul_left _ h1
   rw[Nat.mul_add] at this;omega
  ·omega
 subst hz;omega
theorem xl.over {vs L L':List Nat} {t j br:Nat} (h:xl vs L L' t j vs.length br) (ov:jG vs) (hj:j+vs.length<L.length) (h0:jb (L.drop (j+vs.length+1))=0) (hD:yo B9 (jb (L.drop j)) (jb vs) t) (hlt:L[j+vs.length]?.getD 0<br):
  L[j+vs.length]?.getD 0+1=br∧1≤t:=by
 obtain⟨e,e0,e1⟩:=h.main hj h0;obtain⟨d1,d2,d3⟩:=hD;have hv:=qz ov;have hW:=ZU h.2.1 j vs.length;rw[Nat.mul_comm t] at d2;generalize L[j+vs.length]?.getD 0=z at *;generalize jb ((L'.drop j).take vs.length)=W at *;refine⟨?_,?_⟩
 ·rcases Nat.lt_or_ge (z+1) br with h1 | h1
  ·have:B9^vs.length*(z+2)≤B9^vs.length*br:=Nat.mul_le_mul_left _ h1
   rw[Nat.mul_add] at this;omega
  ·omega
 ·rcases Nat.eq_zero_or_pos t with ht | ht
  ·subst ht
   have:B9^vs.length*(z+1)≤B9^vs.length*br:=Nat.mul_le_mul_left _ hlt;rw[Nat.mul_add] at this;omega
  ·exact ht
def xZ (vs L0 L:List Nat) (j k c:Nat):Prop:=L.length=L0.length∧jG L∧L.take j=L0.take j∧L.drop (j+vs.length)=L0.drop (j+vs.length)∧c≤1 ∧
 jb L+B9^(j+k)*c=jb L0+B9^j*jb (vs.take k)
theorem xZ.start {vs L0:List Nat} (j:Nat) (h:jG L0):xZ vs L0 L0 j 0 0:=⟨rfl,h,rfl,rfl,by omega,by simp[jb]⟩
theorem xZ.step {vs L0 L:List Nat} {j k c d c':Nat} (h:xZ vs L0 L j k c) (hk:k<vs.length) (hlen:j+vs.length≤L0.length) (hd:d<B9) (hc:c'≤1)
  (he:d+B9*c'=L[j+k]?.getD 0+vs[k]?.getD 0+c):xZ vs L0 (L.set (j+k) d) j (k+1) c':=by
 obtain⟨h1,h2,h3,h4,h5,h6⟩:=h;refine⟨by simp[h1],zT h2 _ _ hd,by rw[JJ _ _ _ _ (by omega)];exact h3,by rw[List.drop_set_of_lt (by omega)];exact h4,hc,?_⟩;have hs:=QM L (j+k) d (by omega);rw[QP vs,show j+(k+1)=(j+k)+1 from by omega,Nat.pow_succ]
 have e:B9^(j+k)*(d+B9*c')=B9^(j+k)*(L[j+k]?.getD 0+vs[k]?.getD 0+c):=by rw[he]
 have e2:B9^j*(B9^k*vs[k]?.getD 0)=B9^(j+k)*vs[k]?.getD 0:=by rw[Nat.pow_add,Nat.mul_assoc]
 simp only[Nat.mul_add,e2] at e hs h6 ⊢;rw[Nat.mul_assoc (B9^(j+k)) B9 c'];omega
theorem xZ.fit {vs L L' M:List Nat} {t j br c:Nat} (hS:xl vs L L' t j vs.length br) (hA:xZ vs L' M j vs.length c) (ov:jG vs) (hj:j+vs.length<L.length) (h0:jb (L.drop (j+vs.length+1))=0) (hD:yo B9 (jb (L.drop j)) (jb vs) t) (hlt:L[j+vs.length]?.getD 0<br):
  c=1∧jb (L.drop j)=jb vs*(t-1)+jb ((M.set (j+vs.length) 0).drop j)∧jb ((M.set (j+vs.length) 0).drop j)<jb vs:=by
 obtain⟨hz,ht⟩:=hS.over ov hj h0 hD hlt;obtain⟨e,e0,e1⟩:=hS.main hj h0;have hl:L'.length=L.length:=hS.1;have hl2:M.length=L'.length:=hA.1;obtain⟨a1,a2,a3,a4,a5,a6⟩:=hA;obtain⟨g1,g2⟩:=U2 a4;rw[List.take_of_length_le (Nat.le_refl _),Nat.pow_add,Nat.mul_assoc] at a6;have h7:=Gr a1 a3 (by omega) a6;rw[XT (L:=M) (j:=j) (n:=vs.length) (by omega) (by rw[g2];exact e0),XT (L:=L') (j:=j) (n:=vs.length) (by omega) e0,g1,e1] at h7;rw[H5 (by omega) (by rw[g2];exact e0),Nat.mul_zero,Nat.add_zero];obtain⟨d1,d2,d3⟩:=hD
 obtain⟨t',rfl⟩:∃t',t=t'+1:=⟨t-1,by omega⟩
 rw[Nat.add_mul,Nat.one_mul,Nat.mul_comm _ (jb vs)] at d2;rw[Nat.add_mul,Nat.one_mul,Nat.mul_comm _ (jb vs)] at d3;rw[Nat.add_sub_cancel];have hW:=ZU a2 j vs.length;have hW1:=ZU hS.2.1 j vs.length;subst hz;simp only[Nat.mul_add,Nat.mul_one] at *;generalize L[j+vs.length]?.getD 0=z at *;generalize jb ((L'.drop j).take vs.length)=W at *;generalize jb ((M.drop j).take vs.length)=W2 at *
 have hc:c=1:=by
  rcases Nat.lt_or_ge c 1 with h1 | h1
  ·have:c=0:=by omega
   subst this;omega
  ·omega
 subst hc;omega
theorem Wb {v f:Nat} (hv:0<v) (hv2:v<B9) (hf:f=B9/(v+1)):0<f∧f<B9∧f*(v+1)≤B9∧B9≤2*(v*f):=by
 have h1:=Nat.div_add_mod B9 (v+1);have h2:=Nat.mod_lt B9 (show 0<v+1 by omega);rw[←hf] at h1
 have hf0:0<f:=by
  rcases Nat.eq_zero_or_pos f with h | h
  ·rw[h] at h1;omega
  ·exact h
 have h3:f*(v+1)≤B9:=by rw[Nat.mul_comm];omega
 have h4:f*2≤f*(v+1):=Nat.mul_le_mul_left _ (by omega);refine⟨hf0,by unfold B9 at *;omega,h3,?_⟩;rcases Nat.lt_or_ge (2*v) B9 with hlt | hge
 ·rcases Nat.lt_or_ge v 2 with h5 | h5
  ·have:v=1:=by omega
   subst this;unfold B9 at *;omega
  ·obtain⟨b,hb⟩:∃b,B9=2*v+2+b:=⟨B9-(2*v+2),by unfold B9 at *;omega⟩
   have h6:v+2+b≤f*(v+1):=by rw[Nat.mul_comm];omega
   rcases Nat.lt_or_ge (2*(v*f)) B9 with h9 | h9
   ·exfalso
    have h10:(v+1)*(2*(v*f)+1)≤(v+1)*B9:=Nat.mul_le_mul_left _ h9;have h11:2*v*(v+2+b)≤2*v*(f*(v+1)):=Nat.mul_le_mul_left _ h6
    have k1:(v+1)*(2*(v*f)+1)=2*v*(f*(v+1))+(v+1):=by
     rw[Nat.mul_add,Nat.mul_one,Nat.mul_left_comm,Nat.mul_assoc 2 v,Nat.mul_comm (v+1),Nat.mul_assoc v f]
    have k2:2*v*(v+2+b)=2*(v*v)+4*v+2*(v*b):=by rw[Nat.mul_assoc];simp only[Nat.mul_add];omega
    have k3:(v+1)*(2*v+2+b)=2*(v*v)+4*v+2+v*b+b:=by rw[Nat.add_mul,Nat.one_mul,Nat.mul_add,Nat.mul_add,Nat.mul_left_comm v 2 v];omega
    have k4:2*b≤v*b:=Nat.mul_le_mul_right _ h5;rw[hb,k3,k1] at h10;omega
   ·exact h9
 ·have:2*v*1≤2*v*f:=Nat.mul_le_mul_left _ hf0
  rw[←Nat.mul_assoc];omega
def Ub (w:World) (g K cap:Nat) (cs:List Value):Prop:=cs.length=K∧K≤cap∧cap≤maxLen ∧ ∃cur:Array Value,w.heap[g]? =some (.cells cur 3 (0,0))∧cur.toList.take K=cs
section
variable {w w':World} {g K cap:Nat} {cs:List Value}
theorem Ub.of_owns {base:Nat} {v:Value} (h:w.ownsRow base 3 1 v K cs) (hK:0<K):∃g cap,v = .slice (some ⟨g,0,none⟩) K cap∧base≤g∧g<w.heap.size∧Ub w g K cap cs:=by
 have hlt:=h.lt;obtain⟨h1,⟨rfl,h2⟩ | ⟨g,cap,cur,rfl,h2,h3,h4,h5,h6,h7⟩⟩:=h
 ·omega
 ·obtain⟨l1,l2⟩:=hlt g rfl
  exact⟨g,cap,rfl,h2,l2,by omega,h4,h5,cur,h3,by rw[Nat.mul_one] at h7;exact h7⟩
theorem Ub.lt (h:Ub w g K cap cs):g<w.heap.size:=by
 obtain⟨_,_,_,cur,h1,_⟩:=h;rcases Nat.lt_or_ge g w.heap.size with hlt | hge
 ·exact hlt
 ·rw[Array.getElem?_eq_none hge] at h1;cases h1
theorem Ub.cell (h:Ub w g K cap cs) {i:Nat} (hi:i<K):w.cell? ⟨g,i,none⟩=cs[i]? :=by
 obtain⟨_,_,_,cur,h1,rfl⟩:=h;rw[cell_of_row w g i cur 3 (0,0) h1,List.getElem?_take_of_lt hi];simp
theorem Ub.free (h:Ub w g K cap cs) (i:Nat):w.frozen? ⟨g,i,none⟩=false:=by
 obtain⟨_,_,_,cur,h1,_⟩:=h;simp[World.frozen?,h1]
theorem Ub.put (h:Ub w g K cap cs) (i:Nat) (u:Value):Ub (w.setCell ⟨g,i,none⟩ u) g K cap (cs.set i u):=by
 obtain⟨h0,h2,h3,cur,h1,rfl⟩:=h;refine⟨by simpa using h0,h2,h3,cur.setIfInBounds i u,?_,?_⟩
 ·simp[World.setCell,Array.getElem?_modify,h1]
 ·simp[List.take_set]
theorem Ub.other (h:Ub w g K cap cs) {p:Addr} (hp:g≠p.block) (u:Value):Ub (w.setCell p u) g K cap cs:=by
 obtain⟨h0,h2,h3,cur,h1,h4⟩:=h;exact⟨h0,h2,h3,cur,(Below.heap_setCell w p u g hp).trans h1,h4⟩
theorem Ub.below {B:Nat} (h:Ub w g K cap cs) (hb:Below B w w') (hg:g<B):Ub w' g K cap cs:=by
 obtain⟨h0,h2,h3,cur,h1,h4⟩:=h;exact⟨h0,h2,h3,cur,(hb.block g hg).trans h1,h4⟩
theorem Ub.drewN (h:Ub w g K cap cs) (n:Nat):Ub (w.drewN n) g K cap cs:=h
theorem Ub.alloc (h:Ub w g K cap cs) (o:Obj):Ub (w.alloc o) g K cap cs:=by
 have hl:=h.lt;obtain⟨h0,h2,h3,cur,h1,h4⟩:=h;exact⟨h0,h2,h3,cur,(Below.heap_alloc w o g hl).trans h1,h4⟩
theorem Ub.slW (h:Ub w g K cap cs) (hK:K≤140737488355328):jE w (.slice (some ⟨g,0,none⟩) K cap) cs:=by
 have hl:=h.lt;have h0:=h.1;refine⟨some ⟨g,0,none⟩,cap,by rw[h0],by have:=h.2.1;omega,by omega,fun hn=>⟨g,0,rfl,hl,fun j hj=> ?_⟩⟩;rw[Nat.zero_add];exact h.cell (by omega)
end
theorem GX {ws:List Nat} (hn:ki ws) (hok:jG ws) {m:Nat} (hl:ws.length=m+1):0<ws[m]?.getD 0:=by
 have h:=U3 hn hok (k:=m) (by omega);rw[x9 ws m (by omega),List.drop_of_length_le (by omega)] at h;simpa [jb] using h
theorem Di {bs vs:List Nat} {f m:Nat} (ob:jG bs) (nb:ki bs) (hl:bs.length=m+1) (hf:f=B9/(bs[m]?.getD 0+1)) (ov:jG vs) (nv:ki vs) (hv:jb vs=jb bs*f):
  vs.length=m+1∧B9≤2*vs[m]?.getD 0:=by
 have hp:=GX nb ob hl;have hlt:=kI ob m;have hs:=xS bs m (by omega);rw[x9 bs m (by omega),List.drop_of_length_le (by omega)] at hs;have hlo:=qz (zU ob m);rw[List.length_take,Nat.min_eq_left (by omega)] at hlo;generalize bs[m]?.getD 0=v at *;obtain⟨f1,f2,f3,f4⟩:=Wb hp hlt hf;simp only[jb,Nat.mul_zero,Nat.add_zero] at hs;generalize jb (bs.take m)=R at *
 have hup:jb vs<B9^(m+1):=by
  have h1:jb bs<B9^m*(v+1):=by rw[hs,Nat.mul_add];omega
  have h2:jb bs*f<B9^m*(v+1)*f:=Nat.mul_lt_mul_of_pos_right h1 f1
  have h3:B9^m*(v+1)*f≤B9^m*B9:=by rw[Nat.mul_assoc,Nat.mul_comm (v+1)];exact Nat.mul_le_mul_left _ f3
  rw[hv,Nat.pow_succ];omega
 have hdn:B9^m*(v*f)≤jb vs:=by
  rw[hv,hs,Nat.add_mul,Nat.mul_assoc];omega
 have h1:=KE nv hup
 have h2:m<vs.length:=by
  rcases Nat.lt_or_ge m vs.length with h | h
  ·exact h
  ·have h3:=qz ov
   have h4:B9^vs.length≤B9^m:=Nat.pow_le_pow_right (by decide) h;have h5:B9^m*1≤B9^m*(v*f):=Nat.mul_le_mul_left _ (by omega);omega
 refine⟨by omega,?_⟩;have hs2:=xS vs m (by omega);rw[x9 vs m h2,List.drop_of_length_le (by omega)] at hs2;simp only[jb,Nat.mul_zero,Nat.add_zero] at hs2;have hlo2:=qz (zU ov m);rw[List.length_take,Nat.min_eq_left (by omega)] at hlo2;generalize vs[m]?.getD 0=z at *
 have h6:v*f≤z:=by
  rcases Nat.lt_or_ge z (v*f) with h | h
  ·have h3:B9^m*(z+1)≤B9^m*(v*f):=Nat.mul_le_mul_left _ h
   rw[Nat.mul_add] at h3;omega
  ·exact h
 omega
theorem SF {xs ws:List Nat} {f:Nat} (oa:jG xs) (na:ki xs) (hne:xs≠[]) (f1:0<f) (f2:f<B9) (ow:jG ws) (nw:ki ws) (hw:jb ws=jb xs*f):ws≠[]∧ws.length≤xs.length+1∧xs.length≤ws.length:=by
 have h1:=JZ na hne;have h2:=qz oa;have h3:jb xs*1≤jb xs*f:=Nat.mul_le_mul_left _ f1;have h4:0<B9^(xs.length-1):=Nat.pow_pos (by decide)
 have hlen:ws.length≤xs.length+1:=by
  refine KE nw ?_;rw[hw,Nat.pow_succ];exact Nat.mul_lt_mul'' h2 f2
 refine⟨?_,hlen,?_⟩
 ·rintro rfl
  simp[jb] at hw;omega
 ·rcases Nat.lt_or_ge ws.length xs.length with h | h
  ·have h5:=qz ow
   have h6:B9^ws.length≤B9^(xs.length-1):=Nat.pow_le_pow_right (by decide) (by omega);omega
  ·exact h
theorem To {us vs:List Nat} {x y f n M K:Nat} (hu:jb us=x*f) (hv:jb vs=y*f) (hul:us.length=K+1) (hM:M+(n+1)=K+1) (hx:x<B9^K) (hy:B9^n≤y) (f1:0<f):jb (us.drop M)<jb vs:=by
 have h1:=xS us M (by omega);have h2:B9^M*B9^n≤B9^M*y:=Nat.mul_le_mul_left _ hy;rw[←Nat.pow_add,show M+n=K from by omega] at h2;have h3:x*f<B9^M*y*f:=Nat.mul_lt_mul_of_pos_right (by omega) f1;rw[Nat.mul_assoc,←hv,←hu] at h3
 have h4:B9^M*jb (us.drop M)<B9^M*jb vs:=by omega
 exact Nat.lt_of_mul_lt_mul_left h4
theorem Rg (ws:List Nat) (z:Nat):jb (ws++List.replicate z 0)=jb ws:=by rw[J2,Re];simp
theorem Ra {ws:List Nat} (h:jG ws) (z:Nat):jG (ws++List.replicate z 0):=J0.2 ⟨h,QK z⟩
theorem Fa {L:List Nat} {n V:Nat} (h:jb L<V) (hV:V<B9^n) (hn:n≤L.length):jb (L.take n)=jb L:=by
 have h1:=xS L n hn;rcases Nat.eq_zero_or_pos (jb (L.drop n)) with h0 | h0
 ·rw[h0] at h1;omega
 ·have:B9^n*1≤B9^n*jb (L.drop n):=Nat.mul_le_mul_left _ h0
  omega
theorem SD {x y f:Nat} (hf:0<f):x*f/(y*f)=x/y∧x*f%(y*f)/f=x%y:=by
 refine⟨Nat.mul_div_mul_right x y hf,?_⟩;rw[Nat.mul_mod_mul_right,Nat.mul_div_cancel _ hf]
def KK (x y:Nat) (w:World) (e:Ending) (w':World):Prop:=∃q r,e = .returned (.tuple #[q,r])∧Dg w' q (x/y)∧Dg w' r (x%y)∧Below w.heap.size w w'
theorem Dg.nil {w:World} :Dg w (.slice none 0 0) 0:=⟨[],rfl,J1,rfl,none,0,rfl,by simp[jp],by simp[jp],fun h=>by simp[jp] at h⟩
theorem Dg.size_ {w:World} {v:Value} {x:Nat} (h:Dg w v x):∃A n c,v = .slice A n c∧n≤140737488355328:=by
 obtain⟨p,A,c,rfl,_,_,_,_,h2,_⟩:=h.open_;exact⟨A,_,c,rfl,h2⟩
theorem SC (v u:Value) (x y:Nat) (w:World) (hv:Dg w v x) (hu:Dg w u y) (hlt:x<y):
  Calls Tryz.prog 175 #[v,u] w (KK x y w):=by
 have CD:=hid (KG v u x y w hv hu);rw[Jc hlt] at CD;obtain⟨A,n,c,rfl,_⟩:=hv.size_;obtain⟨B,m,d,rfl,_⟩:=hu.size_
 have HF:Hid (∀w':World,Below w.heap.size w w'→KK x y w (.returned (.tuple #[.slice none 0 0,.slice A n c])) w'):=hid (fun w' hB=>by
  refine⟨_,_,rfl,?_,?_,hB⟩
  ·rw[Nat.div_eq_of_lt hlt];exact Dg.nil
  ·rw[Nat.mod_eq_of_lt hlt];exact hv.below hB)
 clear hv hu hlt;go_enter Tryz.func175,Tryz.ntmps175
 go_wp2_with fail
 refine CD.out.mono ?_;rintro e w1 ⟨rfl,hB⟩
 go_wp2
 go_ret2;exact HF.out _ hB
theorem Dg.one {w:World} {v:Value} {y:Nat} (h:Dg w v y) (h0:0<y) (hy:y<B9):∃b off c,v = .slice (some ⟨b,off,none⟩) 1 c∧b<w.heap.size∧w.cell? ⟨b,off,none⟩=some (.int .i64 (y:Int)):=by
 obtain⟨p,A,c,rfl,e1,o1,n1,l1,l2,s1⟩:=h.open_;have hl:=KE n1 (n:=1) (by rw[e1,Nat.pow_one];exact hy)
 have hl2:p.length=1:=by
  rcases Nat.eq_zero_or_pos p.length with h2 | h2
  ·have:=List.length_eq_zero_iff.1 h2
   subst this;simp[jb] at e1;omega
  ·omega
 obtain⟨z,rfl⟩:=List.length_eq_one_iff.1 hl2
 have hz:z=y:=by simpa [jb] using e1
 subst hz;obtain⟨b,off,rfl,hb,hc⟩:=s1.at_ (k:=0) (by simp[jp]);exact⟨b,off,c,rfl,hb,by have:=hc 0 (by simp[jp]);simpa [jp] using this⟩
theorem Dg.lit {w:World} (r:Nat) (hr:r<B9):Calls Tryz.prog 226 #[.slice (some ⟨w.heap.size,0,none⟩) 1 1] (w.alloc (.cells #[.int .i64 (r:Int)] 3)) (fun e w'=>∃v,e = .returned v∧Dg (w.alloc (.cells #[.int .i64 (r:Int)] 3)) v r∧w.alloc (.cells #[.int .i64 (r:Int)] 3)=w'):=by
 have h:=XP (w:=w.alloc (.cells #[.int .i64 (r:Int)] 3)) (g:=w.heap.size) (L:=[r]) 1 rfl (ja.make w 3 [.int .i64 (r:Int)]) (Jp.2 hr) (by decide);simpa [jb] using h
theorem Sy (v u:Value) (x y:Nat) (w:World) (hv:Dg w v x) (hu:Dg w u y) (hle:y≤x) (h0:0<y) (hy:y<B9) (hx:jN x):
  Calls Tryz.prog 175 #[v,u] w (KK x y w):=by
 have CD:=hid (KG v u x y w hv hu);have ho:=JB hle;obtain⟨A,n,c,rfl,_⟩:=hv.size_;obtain⟨b,off,d,rfl,hb,hcell⟩:=hu.one h0 hy;have HV:=hid hv;have HX:=hid hx;have H0:=hid h0;have HY:=hid hy;clear hv hu hx hle h0 hy;generalize kj x y=o at *;go_enter Tryz.func175,Tryz.ntmps175
 go_wp2_with fail
 refine CD.out.mono ?_;rintro e w1 ⟨rfl,hB⟩;have hck:=(hB.cell (p:=⟨b,off,none⟩) hb).trans hcell
 go_wp2_with fail
 refine(UX _ x y w1 (HV.out.below hB) H0.out HY.out HX.out).mono ?_;rintro e w2 ⟨qv,rfl,hq,hB2⟩;have HQ:=hid hq;have DL:=hid (Dg.lit (w:=w2) (x%y) (Nat.lt_trans (Nat.mod_lt _ H0.out) HY.out));have HBB:=hid ((hB.trans (hB2.mono hB.size)).alloc (hB.trans (hB2.mono hB.size)).size (.cells #[.int .i64 ((x%y:Nat):Int)] 3));obtain⟨QA,qn,qc,rfl,_⟩:=hq.size_;clear hq;generalize hrr:x%y=r at *;have HRR:=hid hrr;clear hrr
 go_wp2_with fail
 refine DL.out.mono ?_;rintro e w3 ⟨rv,rfl,hr,rfl⟩;have HR:=hid hr;obtain⟨RA,rn,rc,rfl,_⟩:=hr.size_;clear hr
 go_wp2
 go_ret2;refine⟨_,_,rfl,HQ.out.below ((Below.refl _ _).alloc (Nat.le_refl _) _),?_,HBB.out⟩;rw[HRR.out];exact HR.out
def TK (U V:Nat) (w:World) (e:Ending) (w':World):Prop:=∃t:Nat,e = .returned (.int .i64 (t:Int))∧yo B9 U V t∧Below w.heap.size w w'
theorem TN (uv vv:Value) (us vs:List Nat) (j m:Nat) (w:World) (hu:jE w uv (jp us)) (hv:jE w vv (jp vs)) (ou:jG us) (ov:jG vs) (hl:vs.length=m+2) (hul:j+m+2<us.length)
  (hz:jb (us.drop (j+m+3))=0) (hlt:jb (us.drop j)<B9*jb vs) (hn:B9≤2*vs[m+1]?.getD 0) (hs:us.length≤3000000):
  Calls Tryz.prog 227 #[uv,vv,.int .i64 (j:Int)] w (TK (jb (us.drop j)) (jb vs) w):=by
 obtain⟨A,c,rfl,hc1,hc2⟩:=hu.form;obtain⟨B,d,rfl,hd1,hd2⟩:=hv.form;have HK:=hid (Np ou ov hl hul hz hlt hn);obtain⟨b1,off1,rfl,hbb1,hcell1⟩:=hu.at_ (k:=0) (by rw[j9];omega);obtain⟨b2,off2,rfl,hbb2,hcell2⟩:=hv.at_ (k:=0) (by rw[j9];omega);simp only[j9] at hc1 hd1 hcell1 hcell2 ⊢;have c0:=(hcell1 (j+m+2) (by omega)).trans (qa us (j+m+2) hul);have c1:=(hcell1 (j+m+1) (by omega)).trans (qa us (j+m+1) (by omega));have c2:=(hcell1 (j+m) (by omega)).trans (qa us (j+m) (by omega));have d1:=(hcell2 (m+1) (by omega)).trans (qa vs (m+1) (by omega));have d2:=(hcell2 m (by omega)).trans (qa vs m (by omega));have u0b:=kI ou (j+m+2);have u1b:=kI ou (j+m+1);have u2b:=kI ou (j+m);have v1b:=kI ov (m+1);have v2b:=kI ov m;clear hz hlt hu hv ou ov hcell1 hcell2;generalize us[j+m+2]?.getD 0=u0 at *;generalize us[j+m+1]?.getD 0=u1 at *;generalize us[j+m]?.getD 0=u2 at *;generalize vs[m+1]?.getD 0=v1 at *;generalize vs[m]?.getD 0=v2 at *;generalize jb (us.drop j)=U at *;generalize jb vs=V at *;generalize us.length=L at *;generalize vs.length=n at *
 have hv1:(0:Int)<(v1:Int):=by unfold B9 at hn;omega
 have u0I:(u0:Int)<1000000000:=by unfold B9 at *;omega
 have u1I:(u1:Int)<1000000000:=by unfold B9 at *;omega
 have u2I:(u2:Int)<1000000000:=by unfold B9 at *;omega
 have v1I:(v1:Int)<1000000000:=by unfold B9 at *;omega
 obtain⟨top,htop⟩:∃top,u0*B9+u1=top:=⟨_,rfl⟩
 rw[htop] at HK
 have htI:(u0:Int)*1000000000+(u1:Int)=(top:Int):=by rw[←htop];unfold B9;omega
 have htb:top<1000000000000000000:=by rw[←htop];unfold B9 at *;omega
 have HI0:=hid HK.out.start;have HR0:Hid (top%v1<v1):=hid (Nat.mod_lt _ (by omega));have HD0:Hid (top/v1≤top):=hid (Nat.div_le_self _ _);have Q1:(top:Int)/(v1:Int)=((top/v1:Nat):Int):=(Int.natCast_ediv _ _).symm;have Q2:(top:Int)%(v1:Int)=((top%v1:Nat):Int):=(Int.natCast_emod _ _).symm
 obtain⟨N0,hN0⟩:∃N0,N0=j+m+2:=⟨_,rfl⟩
 obtain⟨N1,hN1⟩:∃N1,N1=j+m+1:=⟨_,rfl⟩
 obtain⟨N2,hN2⟩:∃N2,N2=j+m:=⟨_,rfl⟩
 obtain⟨M1,hM1⟩:∃M1,M1=m+1:=⟨_,rfl⟩
 rw[←hN0] at c0;rw[←hN1] at c1;rw[←hN2] at c2;rw[←hM1] at d1
 have i0:(j:Int)+(n:Int)=(N0:Int):=by omega
 have i1:(N0:Int)-1=(N1:Int):=by omega
 have i2:(N0:Int)-2=(N2:Int):=by omega
 have i3:(n:Int)-1=(M1:Int):=by omega
 have i4:(n:Int)-2=(m:Int):=by omega
 have l0:(N0:Int)<(L:Int):=by omega
 have l1:(N1:Int)<(L:Int):=by omega
 have l2:(N2:Int)<(L:Int):=by omega
 have l3:(M1:Int)<(n:Int):=by omega
 have l4:(m:Int)<(n:Int):=by omega
 have l5:(L:Int)≤3000000:=by omega
 have l6:(n:Int)≤3000000:=by omega
 have l7:(j:Int)≤3000000:=by omega
 clear hN0 hN1 hN2 hM1 hl hul hs;have HQ1:=hid Q1;have HQ2:=hid Q2;have HV2:=hid v2b;clear Q1 Q2 htop u0b u1b u2b v1b v2b;generalize top/v1=t0 at *;generalize top%v1=r0 at *;go_enter Tryz.func227,Tryz.ntmps227
 go_wp2_with fail
 go_quiet (fail)
 have hB1:=below_drewN (Below.refl w.heap.size w) nq
 go_wp2_with fail
 go_quiet (fail)
 have hB2:=below_drewN hB1 nq
 have ht0:(t0:Int)<1000000000000000000:=by have:=HD0.out;omega
 have hr0:(r0:Int)<1000000000:=by have:=HR0.out;omega
 have ht0w:wrap64 (t0:Int)=(t0:Int):=IntWalk.wrap64_in _ (by omega);rw[HQ1.out,HQ2.out]
 go_wp2_with fail
 rw[ht0w];clear ht0w;have HB2:=hid hB2;clear hB1 hB2 HQ1 HQ2 HD0 HR0 htb htI
 go_loopg [6,9,10] t0 (fun g _ t r wr=>∃r':Nat,t = .int .i64 (g:Int)∧r = .int .i64 (r':Int)∧(g:Int)<1000000000000000000∧(r':Int)<1000000000∧Hid (xO top v1 U V g r')∧Hid (Below w.heap.size w wr))
 case atStart=>exact⟨r0,rfl,rfl,ht0,hr0,HI0,HB2⟩
 case round=>
  clear HB2 HI0 ht0 hr0;obtain⟨r',rfl,rfl,hg9,hr9,hI,hB⟩:=hrel;have hk2:=(hB.out.cell (p:=⟨b1,off1+N2,none⟩) hbb1).trans c2;have he1:=(hB.out.cell (p:=⟨b2,off2+M1,none⟩) hbb2).trans d1;have he2:=(hB.out.cell (p:=⟨b2,off2+m,none⟩) hbb2).trans d2;by_cases hge:1000000000≤gk
  ·have hgI:(1000000000:Int)≤(gk:Int):=by omega
   obtain⟨t',ht',hI2⟩:=HK.out.down hI.out (.inl hge);have HI2:=hid hI2;have HEF:=hid (fun h=>HK.out.exit_far (t:=t') (by rw[←ht'];exact hI.out) hI2 h);clear hI hI2;subst ht'
   have hgJ:(1000000000:Int)≤(t':Int)+1:=by omega
   clear hge hgI
   go_wp2_with fail
   go_quiet (fail)
   have HB3:=hid (below_drewN hB.out nq);by_cases hfar:1000000000≤r'+v1
   ·have hfI:(1000000000:Int)≤(r':Int)+(v1:Int):=by omega
    have HD:=hid (HEF.out hfar);clear hfar HEF
    go_wp2
    go_ret;exact⟨t',by go_num,HD.out,HB3.out⟩
   ·have hfI:¬(1000000000:Int)≤(r':Int)+(v1:Int):=by omega
    clear hfar HEF
    go_wp2
    go_roundg t'
    case rel=>exact⟨r'+v1,by go_num,by go_num,by omega,by omega,HI2,HB3⟩
    case measure=>omega
  ·obtain⟨tv,htv⟩:∃tv,gk*v2=tv:=⟨_,rfl⟩
   have htvb:tv<1000000000000000000:=by
    have h1:gk*v2≤999999999*999999999:=Nat.mul_le_mul (by omega) (by have:=HV2.out;unfold B9 at this;omega);rw[htv] at h1;omega
   by_cases hlt:r'*1000000000+u2<tv
   ·have hlI:(r':Int)*1000000000+(u2:Int)<(tv:Int):=by omega
    have htw:wrap64 (((gk:Nat):Int)*(v2:Int))=(tv:Int):=by rw[←Int.natCast_mul,htv];exact IntWalk.wrap64_in _ (by omega)
    obtain⟨t',ht',hI2⟩:=HK.out.down hI.out (.inr (by rw[htv];exact hlt));have HI2:=hid hI2;have HEF:=hid (fun h=>HK.out.exit_far (t:=t') (by rw[←ht'];exact hI.out) hI2 h);clear hI hI2 htv hlt;subst ht';have htw2:wrap64 (((t':Int)+1)*(v2:Int))=(tv:Int):=htw;clear htw;have hgJ:decide ((1000000000:Int)≤(t':Int)+1)=false:=decide_eq_false (by clear htw2;omega);clear hge
    go_wp2_with fail
    go_quiet (fail)
    have HB3:=hid (below_drewN hB.out nq);by_cases hfar:1000000000≤r'+v1
    ·have hfI:(1000000000:Int)≤(r':Int)+(v1:Int):=by omega
     have HD:=hid (HEF.out hfar);clear hfar HEF
     go_wp2
     go_ret;exact⟨t',by go_num,HD.out,HB3.out⟩
    ·have hfI:¬(1000000000:Int)≤(r':Int)+(v1:Int):=by omega
     clear hfar HEF
     go_wp2
     go_roundg t'
     case rel=>exact⟨r'+v1,by go_num,by go_num,by omega,by omega,HI2,HB3⟩
     case measure=>omega
   ·have hlI:decide ((r':Int)*1000000000+(u2:Int)<(tv:Int))=false:=decide_eq_false (by omega)
    have HD:=hid (HK.out.exit hI.out (show gk<B9 from by unfold B9;omega) (by rw[htv];show tv≤r'*1000000000+u2;omega))
    have htw:wrap64 ((gk:Int)*(v2:Int))=(tv:Int):=by rw[←Int.natCast_mul,htv];exact IntWalk.wrap64_in _ (by omega)
    have hgI:decide ((1000000000:Int)≤(gk:Int))=false:=decide_eq_false (by clear htw hlI;omega);clear hge hI htv hlt
    go_wp2_with fail
    go_quiet (fail)
    have HB3:=hid (below_drewN hB.out nq)
    go_wp2
    go_ret;exact⟨gk,rfl,HD.out,HB3.out⟩
theorem Fz {f:Nat} (h:0<f):ki [f]:=by
 have:=zK [] f (by omega);simpa [ki] using this
theorem Dg.new (w:World) (f:Nat) (h:0<f) (hf:f<B9):Dg (w.alloc (.cells #[.int .i64 (f:Int)] 3)) (.slice (some ⟨w.heap.size,0,none⟩) 1 1) f:=
 ⟨[f],by simp[jb],Jp.2 hf,Fz h,((ja.make w 3 [.int .i64 (f:Int)]).sl 1 rfl (by decide)).wide⟩
theorem N8 (ws:List Nat):∀u∈jp ws,u.oneCell'=true:=by
 intro u hu;obtain⟨x,_,rfl⟩:=List.mem_map.1 hu;rfl
theorem N7 {w:World} {b off:Nat} {ws:List Nat} (h:∀j,j<(jp ws).length→w.cell? ⟨b,off+j,none⟩=(jp ws)[j]?):∀(j:Nat) (u:Value),(jp ws)[j]? =some u→w.cell? ((⟨b,off,none⟩:Addr).add j)=some u:=by
 intro j u hu;rw[Lib.add_plain,h j (List.getElem?_eq_some_iff.1 hu).1,hu]
theorem Fl {w:World} {g K cap n:Nat} {L:List Nat} (hU:Ub w g K cap (jp L)) (hok:jG L) (hn:n≤K) (hs:K≤140737488355328):
  Calls Tryz.prog 226 #[.slice (some ⟨g,0,none⟩) n cap] w fun e w'=>∃v,e = .returned v∧Dg w v (jb (L.take n))∧w=w':=by
 have hl:=hU.1;rw[j9] at hl;have h:=(hU.slW hs).take (k:=n) (by rw[j9];omega);rw[Za] at h
 have e:(L.take n).length=n:=by rw[List.length_take];omega
 have h2:=XQ (some ⟨g,0,none⟩) cap (L.take n) w (by rw[e];exact h);rw[e] at h2
 exact h2.mono fun e w' ⟨h3,h4,h5⟩=>⟨_,h3,Dg.of_trim (zU hok n) h4,h5⟩
def GY (z:Nat) (W:World) (e:Ending) (w':World):Prop:=∃v,e = .returned v∧Dg W v z∧W=w'
