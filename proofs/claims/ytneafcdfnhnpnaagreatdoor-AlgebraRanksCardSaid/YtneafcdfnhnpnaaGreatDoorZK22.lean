/- Contracts of the reference: quotients, common divisors. -/
import Derived.Test.YtneafcdfnhnpnaaGreatDoorZK21
set_option maxRecDepth 100000
set_option maxHeartbeats 8000000
namespace Go.Proofs.YtneafcdfnhnpnaaGreatDoor
open Go.RowKit Go.Lib
theorem J5 (v u:Value) (x y:Nat) (w:World) (hv:Dg w v x) (hu:Dg w u y) (h0:0<y) (hx:jN x):
  Calls Tryz.prog 175 #[v,u] w (KK x y w):=by
 rcases Nat.lt_or_ge x y with h | h
 ·exact SC v u x y w hv hu h
 ·rcases Nat.lt_or_ge y B9 with h1 | h1
  ·exact Sy v u x y w hv hu h h0 h1 hx
  ·exact Sw v u x y w hv hu h h1 hx
theorem Dg.zero_ {w:World} {v:Value} (h:Dg w v 0):∃A c,v = .slice A 0 c:=by
 obtain⟨p,A,c,rfl,e1,o1,n1,l1,l2,s1⟩:=h.open_;obtain rfl:=(Uw n1).1 e1;exact⟨A,c,rfl⟩
theorem Dg.pos_ {w:World} {v:Value} {x:Nat} (h:Dg w v x) (h0:0<x):∃A n c,v = .slice A n c∧(0:Int)<(n:Int)∧n≤140737488355328:=by
 obtain⟨p,A,c,rfl,e1,o1,n1,l1,l2,s1⟩:=h.open_;refine⟨A,p.length,c,rfl,?_,l2⟩;rcases Nat.eq_zero_or_pos p.length with h1 | h1
 ·have:=List.length_eq_zero_iff.1 h1
  subst this;simp[jb] at e1;omega
 ·omega
theorem Ys (v u:Value) (x y:Nat) (w:World) (hv:Dg w v x) (hu:Dg w u y) (hx:jN x) (hy:jN y):
  Calls Tryz.prog 106 #[v,u] w (QU (Nat.gcd x y) w):=by
 have HV:=hid hv;have HU:=hid hu;have HX:=hid hx;have HY:=hid hy;obtain⟨A,n,c,rfl,_⟩:=hv.size_;obtain⟨B,m,d,rfl,_⟩:=hu.size_;clear hv hu hx hy;go_enter Tryz.func106,Tryz.ntmps106
 go_wp2_with fail
 go_loopg [0,1,5,6] y (fun g a b _ _ wr=>∃x':Nat,Hid (Dg wr a x')∧Hid (Dg wr b g)∧Hid (Nat.gcd x' g=Nat.gcd x y)∧Hid (jN x')∧Hid (jN g)∧Hid (Below w.heap.size w wr))
 case atStart=>exact⟨x,HV,HU,hid rfl,HX,HY,hid (Below.refl _ _)⟩
 case round=>
  clear HV HU HX HY;obtain⟨x',hA,hB,hG,hX,hY,hBl⟩:=hrel;obtain⟨A2,n2,c2,rfl,_⟩:=hA.out.size_
  cases gk with
  | zero=>
   obtain⟨B2,d2,rfl⟩:=hB.out.zero_;have HD:Hid (Dg wr (.slice A2 n2 c2) (Nat.gcd x y)):=hid (by rw[←hG.out,Nat.gcd_zero_right];exact hA.out);clear hG
   go_wp2
   go_ret;exact⟨_,rfl,HD.out,hBl.out⟩
  | succ g=>
   obtain⟨B2,m2,d2,rfl,hm2,_⟩:=hB.out.pos_ (Nat.succ_pos g);have DV:=hid (J5 _ _ x' (g+1) wr hA.out hB.out (Nat.succ_pos g) hX.out);have HLT:Hid (x'%(g+1)<g+1):=hid (Nat.mod_lt _ (Nat.succ_pos g));have HG2:Hid (Nat.gcd (g+1) (x'%(g+1))=Nat.gcd x y):=hid (by rw[←hG.out,Nat.gcd_comm x',Nat.gcd_rec (g+1) x',Nat.gcd_comm])
   go_wp2_with fail
   refine DV.out.mono ?_;rintro e w2 ⟨q,r,rfl,hq,hr,hB2⟩;obtain⟨QA,qn,qc,rfl,_⟩:=hq.size_;obtain⟨RA,rn,rc,rfl,_⟩:=hr.size_;have HR:=hid hr;have HB2:=hid (hB.out.below hB2);have HBL:=hid (hBl.out.trans (hB2.mono hBl.out.size));have HXR:Hid (jN (x'%(g+1))):=hid (hX.out.le (Nat.mod_le _ _));clear hq hr hB2 DV hG hA hB hBl;generalize x'%(g+1)=rr at *
   go_wp2
   go_roundg rr
   case rel=>exact⟨g+1,HB2,HR,HG2,hY,HXR,HBL⟩
   case measure=>exact HLT.out
theorem Wl {w:World} {base:Nat} {e:TypeId} {size:Nat} {v:Value} {n:Nat} {xs:List Value} (h:w.ownsRow base e size v n xs) (k:Nat):(w.drewN k).ownsRow base e size v n xs:=h
theorem QO (ws:List Nat) (k:Nat):jb (ws.take (k+1))=jb (ws.take k)+B9^k*ws[k]?.getD 0:=by
 rcases Nat.lt_or_ge k ws.length with h | h
 ·rw[yO ws k h,zV,List.length_take,Nat.min_eq_left (by omega)]
 ·rw[List.take_of_length_le (by omega),List.take_of_length_le h,List.getElem?_eq_none h];simp
theorem YA (v:Value) (ws:List Nat) (i:Nat) (w:World) (hv:jE w v (jp ws)):
  Calls Tryz.prog 231 #[v,.int .i64 (i:Int)] w fun e w'=>e = .returned (.int .i64 ((ws[i]?.getD 0:Nat):Int))∧w=w':=by
 obtain⟨A,c,rfl,hc1,hc2⟩:=hv.form;simp only[j9] at *;rcases Nat.lt_or_ge i ws.length with h | h
 ·have hI:(i:Int)<(ws.length:Int):=by omega
  obtain⟨b,off,rfl,hb,hcell⟩:=hv.at_ (k:=i) (by rw[j9];omega);have hck:=(hcell i (by rw[j9];omega)).trans (qa ws i h);generalize ws[i]?.getD 0=x at *;clear hcell hv;go_enter Tryz.func231,Tryz.ntmps231
  go_wp2
  go_ret;exact⟨rfl,rfl⟩
 ·have hI:¬(i:Int)<(ws.length:Int):=by omega
  have HX:Hid (ws[i]?.getD 0=0):=hid (by rw[List.getElem?_eq_none h];rfl);clear hv h;go_enter Tryz.func231,Tryz.ntmps231
  go_wp2
  go_ret;exact⟨by rw[HX.out];rfl,rfl⟩
def yR (p q:List Nat) (k c:Nat) (L:List Nat):Prop:=L.length=k∧jG L∧c≤1∧jb L+B9^k*c=jb (p.take k)+jb (q.take k)
theorem yR.start (p q:List Nat):yR p q 0 0 []:=⟨rfl,J1,by omega,by simp[jb]⟩
theorem yR.step {p q:List Nat} {k c:Nat} {L:List Nat} (h:yR p q k c L) (op:jG p) (oq:jG q) {s:Nat} (hs:p[k]?.getD 0+q[k]?.getD 0+c=s):yR p q (k+1) (s/B9) (L++[s%B9]):=by
 obtain⟨h1,h2,h3,h4⟩:=h;have hx:=kI op k;have hy:=kI oq k;have e:=Nat.div_add_mod s B9;have hr:s%B9<B9:=Nat.mod_lt _ (by decide);unfold yR;rw[QO,QO,zV,h1,Nat.pow_succ,Nat.mul_assoc];generalize s/B9=t at *;generalize s%B9=r at *;generalize p[k]?.getD 0=x at *;generalize q[k]?.getD 0=y at *
 have e2:B9^k*(B9*t+r)=B9^k*(x+y+c):=by rw[e,hs]
 rw[Nat.mul_add,Nat.mul_add,Nat.mul_add] at e2;refine⟨by simp[h1],J0.2 ⟨h2,Jp.2 hr⟩,by unfold B9 at *;omega,?_⟩;generalize B9^k=P at *;generalize P*(B9*t)=Z1 at *;generalize P*r=Z2 at *;generalize P*x=Z3 at *;generalize P*y=Z4 at *;generalize P*c=Z5 at *;omega
theorem yR.last {p q:List Nat} {k c:Nat} {L:List Nat} (h:yR p q k c L) (hp:p.length≤k) (hq:q.length≤k) (hc:c=0):jb L=jb p+jb q:=by
 have h4:=h.2.2.2;rw[List.take_of_length_le hp,List.take_of_length_le hq,hc] at h4;simpa using h4
theorem CS {x y c s:Nat} (hx:x=0) (hy:y=0) (hc:c≤1) (hs:x+y+c=s):s/B9=0:=Nat.div_eq_of_lt (by unfold B9;omega)
def zY (x:Nat) (w:World) (e:Ending) (w':World):Prop:=∃v L,e = .returned v∧jb L=x∧jG L∧jE w' v (jp L)∧Below w.heap.size w w'
theorem Er (v u:Value) (p q:List Nat) (w:World) (hv:jE w v (jp p)) (hu:jE w u (jp q)) (op:jG p) (oq:jG q) (hp:p.length≤1000000) (hq:q.length≤1000000):
  Calls Tryz.prog 184 #[v,u] w (zY (jb p+jb q) w):=by
 obtain⟨A,c,rfl,hc1,hc2⟩:=hv.form;obtain⟨B,d,rfl,gc1,gc2⟩:=hu.form;simp only[j9] at *;obtain⟨i0,hi,hz0,hz1,hz2⟩:=info_parts yc
 obtain⟨m,hpm,hqm,hm6⟩:∃m,p.length≤m∧q.length≤m∧m≤1000000:=⟨max p.length q.length,by omega,by omega,by omega⟩
 have HV:=hid hv;have HU:=hid hu;have HOP:=hid op;have HOQ:=hid oq;clear hv hu op oq;go_enter Tryz.func184,Tryz.ntmps184
 go_wp2_with fail
 go_loopg [5,6,7,8] (m+1) (fun g out cr i _ wr=>∃(k c':Nat) (L:List Nat),i = .int .i64 (k:Int)∧cr = .int .i64 (c':Int)∧k+g=m+1∧Hid (yR p q k c' L)∧Hid (g=0→c'=0)∧Hid (wr.ownsRow w.heap.size 3 1 out k (jp L))∧Hid (Below w.heap.size w wr))
 case atStart=>exact⟨0,0,[],rfl,rfl,by omega,hid (yR.start p q),hid (fun h=>rfl),hid (World.ownsRow_nil _ _ _ _),hid (Below.refl _ _)⟩
 case round=>
  obtain⟨k,c',L,rfl,rfl,hk,hI,hZ,hO,hB⟩:=hrel;have hc1':c'≤1:=hI.out.2.2.1;have hs:=hB.out.size;by_cases hgo:k<p.length∨k<q.length∨0<c'
  ·obtain⟨g,rfl⟩:∃g,gk=g+1:=⟨gk-1,by
    rcases Nat.eq_zero_or_pos gk with h0 | h0
    ·have:=hZ.out h0;omega
    ·omega⟩
   have hkm:k≤1000000:=by omega
   have D1:Hid (Calls Tryz.prog 231 #[.slice A p.length c,.int .i64 (k:Int)] wr fun e w'=>e = .returned (.int .i64 ((p[k]?.getD 0:Nat):Int))∧wr=w'):=hid (YA _ p k wr (HV.out.below hB.out));have D2:Hid (Calls Tryz.prog 231 #[.slice B q.length d,.int .i64 (k:Int)] wr fun e w'=>e = .returned (.int .i64 ((q[k]?.getD 0:Nat):Int))∧wr=w'):=hid (YA _ q k wr (HU.out.below hB.out));have hx9:=kI HOP.out k;have hy9:=kI HOQ.out k;have HST:=hid (fun s hs=>hI.out.step (s:=s) HOP.out HOQ.out hs);have HZ2:Hid (∀s,p[k]?.getD 0+q[k]?.getD 0+c'=s→g=0→s/B9=0):=hid (fun s hs h0=>CS (by rw[List.getElem?_eq_none (by omega)];rfl) (by rw[List.getElem?_eq_none (by omega)];rfl) hc1' hs);generalize p[k]?.getD 0=x at *;generalize q[k]?.getD 0=y at *
   obtain⟨s,hss⟩:∃s,x+y+c'=s:=⟨_,rfl⟩
   have HS:=hid (HST.out s hss);have HZ3:=hid (HZ2.out s hss);have Q1:Hid (((x:Int)+(y:Int)+(c':Int))/1000000000=((s/B9:Nat):Int)):=hid (by rw[←hss,Int.natCast_ediv,Int.natCast_add,Int.natCast_add];rfl);have Q2:Hid (((x:Int)+(y:Int)+(c':Int))%1000000000=((s%B9:Nat):Int)):=hid (by rw[←hss,Int.natCast_emod,Int.natCast_add,Int.natCast_add];rfl)
   have hxI:(x:Int)<1000000000:=by unfold B9 at hx9;omega
   have hyI:(y:Int)<1000000000:=by unfold B9 at hy9;omega
   have hcI:(c':Int)≤1:=by omega
   have Hk:=hid hk;clear hss HST HZ2 hx9 hy9 hk hI hZ hc1';by_cases h1:k<p.length
   ·have h1I:(k:Int)<(p.length:Int):=by omega
    clear h1 hgo
    go_wp2_with fail
    refine D1.out.mono ?_;rintro e w1 ⟨rfl,rfl⟩
    go_wp2_with fail
    refine D2.out.mono ?_;rintro e w1 ⟨rfl,rfl⟩
    go_wp2_with (at_builtin;(refine wpList_append_own _ rfl _ _ 50 rfl w.heap.size 3 i0 (.int .i64 0) 1 8 Tryz.underlying50 hi hz0 hz1 hz2 rfl (by decide) _ _ _ rfl (hO.out.alloc _) ⟨wr.heap.size,0,none⟩ 1 1 [.int .i64 (((x:Int)+(y:Int)+(c':Int))%1000000000)] rfl rfl (cell_one_new _ _ _) (fun x hx=>by simp at hx;subst hx;rfl) (by unfold maxLen;omega) (by omega) (by simp;omega) ?_;intro v' w1 hown' hgrow _))
    rw[Q2.out,←xW] at hown';have HO':=hid hown';have HB':=hid (Below.grown (hB.out.alloc hs (.cells #[.int .i64 (((x:Int)+(y:Int)+(c':Int))%1000000000)] 3)) hgrow (by simp;omega) (fun j hj=>by have:=(hO.out.lt _ hj).1;omega));clear hown' hgrow
    go_wp2
    go_roundg g
    case rel=>exact⟨k+1,s/B9,L++[s%B9],by go_num,by rw[Q1.out],by have:=Hk.out;omega,HS,HZ3,HO',HB'⟩
    case measure=>omega
   ·have h1I:¬(k:Int)<(p.length:Int):=by omega
    by_cases h2:k<q.length
    ·have h2I:(k:Int)<(q.length:Int):=by omega
     clear h1 h2 hgo
     go_wp2_with fail
     refine D1.out.mono ?_;rintro e w1 ⟨rfl,rfl⟩
     go_wp2_with fail
     refine D2.out.mono ?_;rintro e w1 ⟨rfl,rfl⟩
     go_wp2_with (at_builtin;(refine wpList_append_own _ rfl _ _ 50 rfl w.heap.size 3 i0 (.int .i64 0) 1 8 Tryz.underlying50 hi hz0 hz1 hz2 rfl (by decide) _ _ _ rfl (hO.out.alloc _) ⟨wr.heap.size,0,none⟩ 1 1 [.int .i64 (((x:Int)+(y:Int)+(c':Int))%1000000000)] rfl rfl (cell_one_new _ _ _) (fun x hx=>by simp at hx;subst hx;rfl) (by unfold maxLen;omega) (by omega) (by simp;omega) ?_;intro v' w1 hown' hgrow _))
     rw[Q2.out,←xW] at hown';have HO':=hid hown';have HB':=hid (Below.grown (hB.out.alloc hs (.cells #[.int .i64 (((x:Int)+(y:Int)+(c':Int))%1000000000)] 3)) hgrow (by simp;omega) (fun j hj=>by have:=(hO.out.lt _ hj).1;omega));clear hown' hgrow
     go_wp2
     go_roundg g
     case rel=>exact⟨k+1,s/B9,L++[s%B9],by go_num,by rw[Q1.out],by have:=Hk.out;omega,HS,HZ3,HO',HB'⟩
     case measure=>omega
    ·have h2I:¬(k:Int)<(q.length:Int):=by omega
     obtain rfl:c'=1:=by omega
     clear h1 h2 hgo hcI;replace Q1:Hid (((x:Int)+(y:Int)+1)/1000000000=((s/B9:Nat):Int)):=hid Q1.out;replace Q2:Hid (((x:Int)+(y:Int)+1)%1000000000=((s%B9:Nat):Int)):=hid Q2.out
     go_wp2_with fail
     refine D1.out.mono ?_;rintro e w1 ⟨rfl,rfl⟩
     go_wp2_with fail
     refine D2.out.mono ?_;rintro e w1 ⟨rfl,rfl⟩
     go_wp2_with (at_builtin;(refine wpList_append_own _ rfl _ _ 50 rfl w.heap.size 3 i0 (.int .i64 0) 1 8 Tryz.underlying50 hi hz0 hz1 hz2 rfl (by decide) _ _ _ rfl (hO.out.alloc _) ⟨wr.heap.size,0,none⟩ 1 1 [.int .i64 (((x:Int)+(y:Int)+1)%1000000000)] rfl rfl (cell_one_new _ _ _) (fun x hx=>by simp at hx;subst hx;rfl) (by unfold maxLen;omega) (by omega) (by simp;omega) ?_;intro v' w1 hown' hgrow _))
     rw[Q2.out,←xW] at hown';have HO':=hid hown';have HB':=hid (Below.grown (hB.out.alloc hs (.cells #[.int .i64 (((x:Int)+(y:Int)+1)%1000000000)] 3)) hgrow (by simp;omega) (fun j hj=>by have:=(hO.out.lt _ hj).1;omega));clear hown' hgrow
     go_wp2
     go_roundg g
     case rel=>exact⟨k+1,s/B9,L++[s%B9],by go_num,by rw[Q1.out],by have:=Hk.out;omega,HS,HZ3,HO',HB'⟩
     case measure=>omega
  ·have hk1:p.length≤k:=by omega
   have hk2:q.length≤k:=by omega
   have hc0:c'=0:=by omega
   have HL:=hid (hI.out.last hk1 hk2 hc0);have HOL:=hid hI.out.2.1
   have h1I:¬(k:Int)<(p.length:Int):=by omega
   have h2I:¬(k:Int)<(q.length:Int):=by omega
   have HSL:=hid (zc hO.out (by omega));subst hc0;clear hk1 hk2 hI hZ hk hgo
   go_wp2
   go_ret;exact⟨_,_,rfl,HL.out,HOL.out,HSL.out,hB.out⟩
def x7 (p q:List Nat) (k b:Nat) (L:List Nat):Prop:=L.length=k∧jG L∧b≤1∧jb (p.take k)+B9^k*b=jb L+jb (q.take k)
theorem x7.start (p q:List Nat):x7 p q 0 0 []:=⟨rfl,J1,by omega,by simp[jb]⟩
theorem x7.step {p q:List Nat} {k b:Nat} {L:List Nat} (h:x7 p q k b L) {d b':Nat} (hd:d<B9) (hb:b'≤1) (he:p[k]?.getD 0+B9*b'=d+q[k]?.getD 0+b):x7 p q (k+1) b' (L++[d]):=by
 obtain⟨h1,h2,h3,h4⟩:=h;unfold x7;rw[QO,QO,zV,h1,Nat.pow_succ,Nat.mul_assoc];generalize p[k]?.getD 0=x at *;generalize q[k]?.getD 0=y at *
 have e2:B9^k*(x+B9*b')=B9^k*(d+y+b):=by rw[he]
 rw[Nat.mul_add,Nat.mul_add,Nat.mul_add] at e2;refine⟨by simp[h1],J0.2 ⟨h2,Jp.2 hd⟩,hb,?_⟩;generalize B9^k=P at *;generalize P*(B9*b')=Z1 at *;generalize P*d=Z2 at *;generalize P*x=Z3 at *;generalize P*y=Z4 at *;generalize P*b=Z5 at *;omega
theorem x7.last {p q:List Nat} {b:Nat} {L:List Nat} (h:x7 p q p.length b L) (hl:q.length≤p.length) (hle:jb q≤jb p):jb L=jb p-jb q:=by
 obtain⟨h1,h2,h3,h4⟩:=h;rw[List.take_of_length_le (Nat.le_refl _),List.take_of_length_le hl] at h4;have h5:=qz h2;rw[h1] at h5;rcases Nat.eq_zero_or_pos b with h0 | h0
 ·rw[h0,Nat.mul_zero] at h4;omega
 ·have:B9^p.length*1≤B9^p.length*b:=Nat.mul_le_mul_left _ h0
  omega
theorem Nu {p q:List Nat} (nq:ki q) (op:jG p) (hle:jb q≤jb p):q.length≤p.length:=by
 rcases Nat.lt_or_ge p.length q.length with h | h
 ·have:=QL op nq h;omega
 ·exact h
theorem GI (v u:Value) (x y:Nat) (w:World) (hv:Dg w v x) (hu:Dg w u y) (hle:y≤x) (hx:jN x):
  Calls Tryz.prog 186 #[v,u] w (QU (x-y) w):=by
 obtain⟨p,A,c,rfl,e1,o1,n1,l1,l2,s1⟩:=hv.open_;obtain⟨q,B,d,rfl,e2,o2,n2,m1,m2,s2⟩:=hu.open_;have hp6:=hx.len n1 e1;subst e1 e2;have HLE:=hid hle;have HQL:=hid (Nu n2 o1 hle);obtain⟨i0,hi,hz0,hz1,hz2⟩:=info_parts yc;have HV:=hid s1;have HU:=hid s2;have HOP:=hid o1;have HOQ:=hid o2;clear hv hu s1 s2 o1 o2 hle hx n1 n2;go_enter Tryz.func186,Tryz.ntmps186
 go_wp2_with fail
 go_loopg [5,6,7,8] p.length (fun g out br i _ wr=>∃(k b:Nat) (L:List Nat),i = .int .i64 (k:Int)∧br = .int .i64 (b:Int)∧k+g=p.length∧Hid (x7 p q k b L)∧Hid (wr.ownsRow w.heap.size 3 1 out k (jp L))∧Hid (Below w.heap.size w wr))
 case atStart=>exact⟨0,0,[],rfl,rfl,by omega,hid (x7.start p q),hid (World.ownsRow_nil _ _ _ _),hid (Below.refl _ _)⟩
 case round=>
  obtain⟨k,b,L,rfl,rfl,hk,hI,hO,hB⟩:=hrel
  cases gk with
  | zero=>
   have hkp:k=p.length:=by omega
   subst hkp;obtain⟨A7,k7,hvf,hv1,hv2⟩:=j8 hO.out;subst hvf;have HL:=hid (hI.out.last HQL.out HLE.out);have hLl:L.length=p.length:=hI.out.1;have TR:=hid (XQ A7 k7 L wr (by have h:=zc hO.out (by omega);rw[←hLl] at h;exact h));rw[hLl] at TR;have HOL:=hid hI.out.2.1
   have hin:¬(p.length:Int)<(p.length:Int):=by omega
   clear hI hk hO hLl
   go_wp2_with fail
   refine TR.out.mono ?_;rintro e w2 ⟨rfl,hsl,rfl⟩;have HSL:=hid hsl;clear hsl TR
   go_wp2
   go_ret;exact⟨_,rfl,by rw[←HL.out];exact Dg.of_trim HOL.out HSL.out,hB.out⟩
  | succ g=>
   have hlt:k<p.length:=by omega
   have hltI:(k:Int)<(p.length:Int):=by omega
   have hkm:k≤1000000:=by omega
   have hs:=hB.out.size;obtain⟨b1,off1,rfl,hbb1,hcell1⟩:=HV.out.at_ (k:=k) (by rw[j9];omega);have hck1:=(hB.out.cell (p:=⟨b1,off1+k,none⟩) hbb1).trans ((hcell1 k (by rw[j9];omega)).trans (qa p k hlt));have D2:Hid (∀n,Calls Tryz.prog 231 #[.slice B q.length d,.int .i64 (k:Int)] (wr.drewN n) fun e w'=>e = .returned (.int .i64 ((q[k]?.getD 0:Nat):Int))∧w'=wr.drewN n):=hid (fun n=>(YA _ q k _ (HU.out.below (below_drewN hB.out n))).mono fun _ _ h=>⟨h.1,h.2.symm⟩);have hx9:=kI HOP.out k;have hy9:=kI HOQ.out k;have HST:=hid (fun d b' h1 h2 h3=>hI.out.step (d:=d) (b':=b') h1 h2 h3);have hb1:b≤1:=hI.out.2.2.1;generalize p[k]?.getD 0=x at *;generalize q[k]?.getD 0=y at *
   have hxI:(x:Int)<1000000000:=by unfold B9 at hx9;omega
   have hyI:(y:Int)<1000000000:=by unfold B9 at hy9;omega
   have hbI:(b:Int)≤1:=by omega
   have W1:IntKind.i64.wrap ((x:Int)-(y:Int))=(x:Int)-(y:Int):=IntWalk.i64_in _ (by omega);have W2:IntKind.i64.wrap ((x:Int)-(y:Int)-(b:Int))=(x:Int)-(y:Int)-(b:Int):=IntWalk.i64_in _ (by omega);have Hk:=hid hk;clear hk hI hcell1;by_cases hneg:x<y+b
   ·have hnI:(x:Int)-(y:Int)-(b:Int)<0:=by omega
    obtain⟨dd,hdd,hd9⟩:∃dd:Nat,(x:Int)-(y:Int)-(b:Int)+1000000000=(dd:Int)∧dd<1000000000:=⟨x+1000000000-y-b,by omega,by omega⟩
    have HN:Hid (x7 p q (k+1) 1 (L++[dd])):=hid (HST.out dd 1 (by unfold B9;omega) (by omega) (by unfold B9;omega));have HD:=hid hdd;clear hneg hdd HST hx9 hy9
    go_wp2_with fail
    go_quiet ((go_at_call 231;exact Calls.quiet_of_same (D2.out _)))
    clear W1 W2
    go_wp2_with (at_builtin;(refine wpList_append_own _ rfl _ _ 50 rfl w.heap.size 3 i0 (.int .i64 0) 1 8 Tryz.underlying50 hi hz0 hz1 hz2 rfl (by decide) _ _ _ rfl ((Wl hO.out nq).alloc _) ⟨wr.heap.size,0,none⟩ 1 1 [.int .i64 ((x:Int)-(y:Int)-(b:Int)+1000000000)] rfl rfl (cell_one_new _ _ _) (fun x hx=>by simp at hx;subst hx;rfl) (by unfold maxLen;omega) (by omega) (by simp;omega) ?_;intro v' w1 hown' hgrow _))
    rw[HD.out,←xW] at hown';have HO':=hid hown';have HB':=hid (Below.grown ((below_drewN hB.out nq).alloc hs (.cells #[.int .i64 ((x:Int)-(y:Int)-(b:Int)+1000000000)] 3)) hgrow (by simp;omega) (fun j hj=>by have:=(hO.out.lt _ hj).1;omega));clear hown' hgrow
    go_wp2
    go_roundg g
    case rel=>exact⟨k+1,1,L++[dd],by go_num,rfl,by have:=Hk.out;omega,HN,HO',HB'⟩
    case measure=>omega
   ·have hnI:decide ((x:Int)-(y:Int)-(b:Int)<0)=false:=decide_eq_false (by omega)
    obtain⟨dd,hdd,hd9⟩:∃dd:Nat,(x:Int)-(y:Int)-(b:Int)=(dd:Int)∧dd<1000000000:=⟨x-y-b,by omega,by omega⟩
    have HN:Hid (x7 p q (k+1) 0 (L++[dd])):=hid (HST.out dd 0 (by unfold B9;omega) (by omega) (by unfold B9;omega));have HD:=hid hdd;clear hneg hdd HST hx9 hy9
    go_wp2_with fail
    go_quiet ((go_at_call 231;exact Calls.quiet_of_same (D2.out _)))
    clear W1 W2
    go_wp2_with (at_builtin;(refine wpList_append_own _ rfl _ _ 50 rfl w.heap.size 3 i0 (.int .i64 0) 1 8 Tryz.underlying50 hi hz0 hz1 hz2 rfl (by decide) _ _ _ rfl ((Wl hO.out nq).alloc _) ⟨wr.heap.size,0,none⟩ 1 1 [.int .i64 ((x:Int)-(y:Int)-(b:Int))] rfl rfl (cell_one_new _ _ _) (fun x hx=>by simp at hx;subst hx;rfl) (by unfold maxLen;omega) (by omega) (by simp;omega) ?_;intro v' w1 hown' hgrow _))
    rw[HD.out,←xW] at hown';have HO':=hid hown';have HB':=hid (Below.grown ((below_drewN hB.out nq).alloc hs (.cells #[.int .i64 ((x:Int)-(y:Int)-(b:Int))] 3)) hgrow (by simp;omega) (fun j hj=>by have:=(hO.out.lt _ hj).1;omega));clear hown' hgrow
    go_wp2
    go_roundg g
    case rel=>exact⟨k+1,0,L++[dd],by go_num,rfl,by have:=Hk.out;omega,HN,HO',HB'⟩
    case measure=>omega
theorem XD {w:World} {v:Value} {x:Int} (h:Ri w v x):∃b n dv,v = .agg #[.bool b,dv]∧x=sg b n∧n=x.natAbs∧Dg w dv n:=by
 obtain⟨dv,rfl,hd⟩:=h.dg;refine⟨decide (x<0),x.natAbs,dv,rfl,?_,rfl,hd⟩;unfold sg;by_cases h:x<0
 ·rw[decide_eq_true h,if_pos rfl];omega
 ·rw[decide_eq_false h,if_neg (by simp)];omega
theorem Dg.slice {w:World} {v:Value} {x:Nat} (h:Dg w v x) (hx:jN x):∃ws A c,v = .slice A ws.length c∧jb ws=x∧jG ws∧ws.length≤1000000∧jE w (.slice A ws.length c) (jp ws):=by
 obtain⟨ws,A,c,rfl,h1,h2,h3,h4,h5,h6⟩:=h.open_;exact⟨ws,A,c,rfl,h1,h2,hx.len h3 h1,h6⟩
def P3 (w W:World) (na nb:Bool) (dv ev:Value):Prop:=
 Below w.heap.size w W∧W.heap.size=w.heap.size+3∧ja W w.heap.size 127 [.bool na,dv]∧ja W (w.heap.size+1) 127 [.bool nb,ev]∧ja W (w.heap.size+1+1) 127 [.bool false,.slice none 0 0]
theorem P3.mk (w:World) (na nb:Bool) (dv ev:Value):P3 w (((w.alloc (.cells #[.bool na,dv] 127)).alloc (.cells #[.bool nb,ev] 127)).alloc (.cells #[.bool false,.slice none 0 0] 127)) na nb dv ev:=by
 refine⟨(((Below.refl _ _).alloc (Nat.le_refl _) _).alloc (by simp) _).alloc (by simp;omega) _,by simp,((ja.make w _ [.bool na,dv]).alloc _).alloc _,?_,?_⟩
 ·have:=ja.make (w.alloc (.cells #[.bool na,dv] 127)) 127 [.bool nb,ev]
  simp only[World.size_alloc] at this;exact this.alloc _
 ·have:=ja.make ((w.alloc (.cells #[.bool na,dv] 127)).alloc (.cells #[.bool nb,ev] 127)) 127 [.bool false,.slice none 0 0]
  simp only[World.size_alloc] at this;exact this
def S3 (w:World) (na nb:Bool) (dv ev:Value) (x:World):Prop:=
 x.cell? ⟨w.heap.size,0,none⟩=some (.bool na)∧x.cell? ⟨w.heap.size,1,none⟩=some dv∧x.cell? ⟨w.heap.size+1,0,none⟩=some (.bool nb)∧x.cell? ⟨w.heap.size+1,1,none⟩=some ev∧w.heap.size+2<x.heap.size∧Below w.heap.size w x
theorem S3.start {w W:World} {na nb:Bool} {dv ev:Value} (h:P3 w W na nb dv ev):S3 w na nb dv ev W:=⟨h.2.2.1.cell 0,h.2.2.1.cell 1,h.2.2.2.1.cell 0,h.2.2.2.1.cell 1,by have:=h.2.1;omega,h.1⟩
theorem S3.call {w x x':World} {na nb:Bool} {dv ev:Value} (hb:Below x.heap.size x x') (h:S3 w na nb dv ev x):S3 w na nb dv ev x':=by
 obtain⟨h1,h2,h3,h4,h5,h6⟩:=h;exact⟨(hb.cell (p:=⟨w.heap.size,0,none⟩) (by simp;omega)).trans h1,(hb.cell (p:=⟨w.heap.size,1,none⟩) (by simp;omega)).trans h2,(hb.cell (p:=⟨w.heap.size+1,0,none⟩) (by simp;omega)).trans h3,(hb.cell (p:=⟨w.heap.size+1,1,none⟩) (by simp;omega)).trans h4,Nat.lt_of_lt_of_le h5 hb.size,h6.trans (hb.mono h6.size)⟩
theorem S3.put {w x:World} {na nb:Bool} {dv ev:Value} (a b:Value) (h:S3 w na nb dv ev x):S3 w na nb dv ev ((x.setCell ⟨w.heap.size+1+1,0,none⟩ a).setCell ⟨w.heap.size+1+1,1,none⟩ b):=by
 obtain⟨h1,h2,h3,h4,h5,h6⟩:=h
 have o0:∀(b i:Nat) (x:World) (u:Value) (j:Nat),b≠w.heap.size+1+1→(x.setCell ⟨w.heap.size+1+1,j,none⟩ u).cell? ⟨b,i,none⟩=x.cell? ⟨b,i,none⟩:=fun b i x u j hb=>World.cell?_setCell_other _ _ _ _ (by intro e;injection e with e1;exact hb e1.symm)
 refine⟨?_,?_,?_,?_,by simpa using h5,(h6.setCell (by simp;omega) _).setCell (by simp;omega) _⟩
 ·rw[o0 _ _ _ _ _ (by omega),o0 _ _ _ _ _ (by omega)];exact h1
 ·rw[o0 _ _ _ _ _ (by omega),o0 _ _ _ _ _ (by omega)];exact h2
 ·rw[o0 _ _ _ _ _ (by omega),o0 _ _ _ _ _ (by omega)];exact h3
 ·rw[o0 _ _ _ _ _ (by omega),o0 _ _ _ _ _ (by omega)];exact h4
theorem S3.drew {w x:World} {na nb:Bool} {dv ev:Value} (h:S3 w na nb dv ev x):S3 w na nb dv ev x.drew:=⟨h.1,h.2.1,h.2.2.1,h.2.2.2.1,h.2.2.2.2.1,h.2.2.2.2.2.drew⟩
theorem S3.all {w x:World} {na nb:Bool} {dv ev:Value} (h:S3 w na nb dv ev x):x.cell? ⟨w.heap.size,0,none⟩=some (.bool na)∧x.cell? ⟨w.heap.size,1,none⟩=some dv∧x.cell? ⟨w.heap.size+1,0,none⟩=some (.bool nb)∧x.cell? ⟨w.heap.size+1,1,none⟩=some ev∧w.heap.size+2<x.heap.size∧Below w.heap.size w x:=h
theorem Fh (dv ev:Value) (X Y:Nat) (w:World) (h1:Dg w dv X) (h2:Dg w ev Y) (bX:jN X) (bY:jN Y):
  Calls Tryz.prog 119 #[.agg #[.bool true,dv],.agg #[.bool true,ev]] w (kN (sg false (X*Y)) w):=by
 obtain⟨ps,A,c,rfl,e1,o1,l1,s1⟩:=h1.slice bX;obtain⟨qs,B,d,rfl,e2,o2,l2,s2⟩:=h2.slice bY
 obtain⟨W0,hW0⟩:∃W0,W0=((w.alloc (.cells #[.bool true,.slice A ps.length c] 127)).alloc (.cells #[.bool true,.slice B qs.length d] 127)).alloc (.cells #[.bool false,.slice none 0 0] 127):=⟨_,rfl⟩
 have hP:P3 w W0 true true (.slice A ps.length c) (.slice B qs.length d):=by rw[hW0];exact P3.mk w true true _ _
 have F1:Hid (∀W,Below w.heap.size w W→Calls Tryz.prog 187 #[.slice A ps.length c,.slice B qs.length d] W (zY (X*Y) W)):=hid (fun W hb=>(Kd _ _ X Y W (h1.below hb) (h2.below hb) bX bY).mono fun e w' h=>by
  obtain⟨v,rfl,⟨ws,q1,q2,q3,q4⟩,hB⟩:=h
  exact⟨v,ws,rfl,q1,q2,q4,hB⟩)
 have KS:=hid (S3.start hP);have hR0:=hid hP.2.2.2.2;clear h1 h2 s1 s2 hP o1 o2 l1 l2 e1 e2 bX bY;generalize ps.length=n at *;generalize qs.length=m at *;obtain⟨a0,a1,b0,b1,hsz,hbl⟩:=KS.out.all;go_enter Tryz.func119,Tryz.ntmps119
 go_upto_region 1 with fail
 rw[←hW0];clear hW0
 go_wp2_with fail
 go_region_held3 (fun x=>x.cell? ⟨w.heap.size,0,none⟩=some (.bool true)∧x.cell? ⟨w.heap.size,1,none⟩=some (.slice A n c)∧x.cell? ⟨w.heap.size+1,0,none⟩=some (.bool true)∧x.cell? ⟨w.heap.size+1,1,none⟩=some (.slice B m d)∧w.heap.size+2<x.heap.size∧Below w.heap.size w x)
  (first | exact KS.out.drew.all | exact(KS.out.call (by assumption)).drew.all | (go_split_ands;exact S3.all (S3.call (by assumption) ⟨by assumption,by assumption,by assumption,by assumption,by assumption,by assumption⟩)) | (go_split_ands;exact S3.all (S3.put _ _ ⟨by assumption,by assumption,by assumption,by assumption,by assumption,by assumption⟩)))
  (first
   | (go_at_call 187;go_split_ands;refine(F1.out _ (by assumption)).mono ?_;rintro e3 w3 ⟨lv,L,rfl,hLv,hLo,hLs,hB3⟩;have hR3:=qj hB3 hR0)
   | (go_at_call 183;go_split_ands;refine(xj false lv L _ hLo hLs).mono ?_;rintro e4 w4 ⟨rv,rfl,hri,hB4⟩;have hR4:=qj hB4 hR3;obtain⟨r0,r1,k0,k1⟩:=hR4.out.two;obtain⟨RA,rn,rc,rfl,hr1,hr2⟩:=hri.open_))
 rw[hLv] at hri;have HRF:=hid (hri.put2 (a':= .bool (decide (sg false (X*Y)<0))) (b':= .slice RA rn rc) hR4.out (js _) (jq _ _ _) (js _));have HBF:Hid (Below w.heap.size w ((w4.setCell ⟨w.heap.size+1+1,0,none⟩ (.bool (decide (sg false (X*Y)<0)))).setCell ⟨w.heap.size+1+1,1,none⟩ (.slice RA rn rc))):=hid (by go_split_ands;assumption)
 go_wp2
 obtain⟨z0,z1,_,_⟩:=(hR4.out.set2 (a':= .bool (decide (sg false (X*Y)<0))) (b':= .slice RA rn rc)).two;exact bodyPost_ret (v:= .agg #[.bool (decide (sg false (X*Y)<0)),.slice RA rn rc]) (by simp[results,Tryz.results119,go_sem,z0,z1]) rfl ⟨_,rfl,HRF.out,HBF.out⟩
theorem Fg (dv ev:Value) (X Y:Nat) (w:World) (h1:Dg w dv X) (h2:Dg w ev Y) (bX:jN X) (bY:jN Y):
  Calls Tryz.prog 119 #[.agg #[.bool true,dv],.agg #[.bool false,ev]] w (kN (sg true (X*Y)) w):=by
 obtain⟨ps,A,c,rfl,e1,o1,l1,s1⟩:=h1.slice bX;obtain⟨qs,B,d,rfl,e2,o2,l2,s2⟩:=h2.slice bY
 obtain⟨W0,hW0⟩:∃W0,W0=((w.alloc (.cells #[.bool true,.slice A ps.length c] 127)).alloc (.cells #[.bool false,.slice B qs.length d] 127)).alloc (.cells #[.bool false,.slice none 0 0] 127):=⟨_,rfl⟩
 have hP:P3 w W0 true false (.slice A ps.length c) (.slice B qs.length d):=by rw[hW0];exact P3.mk w true false _ _
 have F1:Hid (∀W,Below w.heap.size w W→Calls Tryz.prog 187 #[.slice A ps.length c,.slice B qs.length d] W (zY (X*Y) W)):=hid (fun W hb=>(Kd _ _ X Y W (h1.below hb) (h2.below hb) bX bY).mono fun e w' h=>by
  obtain⟨v,rfl,⟨ws,q1,q2,q3,q4⟩,hB⟩:=h
  exact⟨v,ws,rfl,q1,q2,q4,hB⟩)
 have KS:=hid (S3.start hP);have hR0:=hid hP.2.2.2.2;clear h1 h2 s1 s2 hP o1 o2 l1 l2 e1 e2 bX bY;generalize ps.length=n at *;generalize qs.length=m at *;obtain⟨a0,a1,b0,b1,hsz,hbl⟩:=KS.out.all;go_enter Tryz.func119,Tryz.ntmps119
 go_upto_region 1 with fail
 rw[←hW0];clear hW0
 go_wp2_with fail
 go_region_held3 (fun x=>x.cell? ⟨w.heap.size,0,none⟩=some (.bool true)∧x.cell? ⟨w.heap.size,1,none⟩=some (.slice A n c)∧x.cell? ⟨w.heap.size+1,0,none⟩=some (.bool false)∧x.cell? ⟨w.heap.size+1,1,none⟩=some (.slice B m d)∧w.heap.size+2<x.heap.size∧Below w.heap.size w x)
  (first | exact KS.out.drew.all | exact(KS.out.call (by assumption)).drew.all | (go_split_ands;exact S3.all (S3.call (by assumption) ⟨by assumption,by assumption,by assumption,by assumption,by assumption,by assumption⟩)) | (go_split_ands;exact S3.all (S3.put _ _ ⟨by assumption,by assumption,by assumption,by assumption,by assumption,by assumption⟩)))
  (first
   | (go_at_call 187;go_split_ands;refine(F1.out _ (by assumption)).mono ?_;rintro e3 w3 ⟨lv,L,rfl,hLv,hLo,hLs,hB3⟩;have hR3:=qj hB3 hR0)
   | (go_at_call 183;go_split_ands;refine(xj true lv L _ hLo hLs).mono ?_;rintro e4 w4 ⟨rv,rfl,hri,hB4⟩;have hR4:=qj hB4 hR3;obtain⟨r0,r1,k0,k1⟩:=hR4.out.two;obtain⟨RA,rn,rc,rfl,hr1,hr2⟩:=hri.open_))
 rw[hLv] at hri;have HRF:=hid (hri.put2 (a':= .bool (decide (sg true (X*Y)<0))) (b':= .slice RA rn rc) hR4.out (js _) (jq _ _ _) (js _));have HBF:Hid (Below w.heap.size w ((w4.setCell ⟨w.heap.size+1+1,0,none⟩ (.bool (decide (sg true (X*Y)<0)))).setCell ⟨w.heap.size+1+1,1,none⟩ (.slice RA rn rc))):=hid (by go_split_ands;assumption)
 go_wp2
 obtain⟨z0,z1,_,_⟩:=(hR4.out.set2 (a':= .bool (decide (sg true (X*Y)<0))) (b':= .slice RA rn rc)).two;exact bodyPost_ret (v:= .agg #[.bool (decide (sg true (X*Y)<0)),.slice RA rn rc]) (by simp[results,Tryz.results119,go_sem,z0,z1]) rfl ⟨_,rfl,HRF.out,HBF.out⟩
theorem Fe (dv ev:Value) (X Y:Nat) (w:World) (h1:Dg w dv X) (h2:Dg w ev Y) (bX:jN X) (bY:jN Y):
  Calls Tryz.prog 119 #[.agg #[.bool false,dv],.agg #[.bool true,ev]] w (kN (sg true (X*Y)) w):=by
 obtain⟨ps,A,c,rfl,e1,o1,l1,s1⟩:=h1.slice bX;obtain⟨qs,B,d,rfl,e2,o2,l2,s2⟩:=h2.slice bY
 obtain⟨W0,hW0⟩:∃W0,W0=((w.alloc (.cells #[.bool false,.slice A ps.length c] 127)).alloc (.cells #[.bool true,.slice B qs.length d] 127)).alloc (.cells #[.bool false,.slice none 0 0] 127):=⟨_,rfl⟩
 have hP:P3 w W0 false true (.slice A ps.length c) (.slice B qs.length d):=by rw[hW0];exact P3.mk w false true _ _
 have F1:Hid (∀W,Below w.heap.size w W→Calls Tryz.prog 187 #[.slice A ps.length c,.slice B qs.length d] W (zY (X*Y) W)):=hid (fun W hb=>(Kd _ _ X Y W (h1.below hb) (h2.below hb) bX bY).mono fun e w' h=>by
  obtain⟨v,rfl,⟨ws,q1,q2,q3,q4⟩,hB⟩:=h
  exact⟨v,ws,rfl,q1,q2,q4,hB⟩)
 have KS:=hid (S3.start hP);have hR0:=hid hP.2.2.2.2;clear h1 h2 s1 s2 hP o1 o2 l1 l2 e1 e2 bX bY;generalize ps.length=n at *;generalize qs.length=m at *;obtain⟨a0,a1,b0,b1,hsz,hbl⟩:=KS.out.all;go_enter Tryz.func119,Tryz.ntmps119
 go_upto_region 1 with fail
 rw[←hW0];clear hW0
 go_wp2_with fail
 go_region_held3 (fun x=>x.cell? ⟨w.heap.size,0,none⟩=some (.bool false)∧x.cell? ⟨w.heap.size,1,none⟩=some (.slice A n c)∧x.cell? ⟨w.heap.size+1,0,none⟩=some (.bool true)∧x.cell? ⟨w.heap.size+1,1,none⟩=some (.slice B m d)∧w.heap.size+2<x.heap.size∧Below w.heap.size w x)
  (first | exact KS.out.drew.all | exact(KS.out.call (by assumption)).drew.all | (go_split_ands;exact S3.all (S3.call (by assumption) ⟨by assumption,by assumption,by assumption,by assumption,by assumption,by assumption⟩)) | (go_split_ands;exact S3.all (S3.put _ _ ⟨by assumption,by assumption,by assumption,by assumption,by assumption,by assumption⟩)))
  (first
   | (go_at_call 187;go_split_ands;refine(F1.out _ (by assumption)).mono ?_;rintro e3 w3 ⟨lv,L,rfl,hLv,hLo,hLs,hB3⟩;have hR3:=qj hB3 hR0)
   | (go_at_call 183;go_split_ands;refine(xj true lv L _ hLo hLs).mono ?_;rintro e4 w4 ⟨rv,rfl,hri,hB4⟩;have hR4:=qj hB4 hR3;obtain⟨r0,r1,k0,k1⟩:=hR4.out.two;obtain⟨RA,rn,rc,rfl,hr1,hr2⟩:=hri.open_))
 rw[hLv] at hri;have HRF:=hid (hri.put2 (a':= .bool (decide (sg true (X*Y)<0))) (b':= .slice RA rn rc) hR4.out (js _) (jq _ _ _) (js _));have HBF:Hid (Below w.heap.size w ((w4.setCell ⟨w.heap.size+1+1,0,none⟩ (.bool (decide (sg true (X*Y)<0)))).setCell ⟨w.heap.size+1+1,1,none⟩ (.slice RA rn rc))):=hid (by go_split_ands;assumption)
 go_wp2
 obtain⟨z0,z1,_,_⟩:=(hR4.out.set2 (a':= .bool (decide (sg true (X*Y)<0))) (b':= .slice RA rn rc)).two;exact bodyPost_ret (v:= .agg #[.bool (decide (sg true (X*Y)<0)),.slice RA rn rc]) (by simp[results,Tryz.results119,go_sem,z0,z1]) rfl ⟨_,rfl,HRF.out,HBF.out⟩
theorem Fc (dv ev:Value) (X Y:Nat) (w:World) (h1:Dg w dv X) (h2:Dg w ev Y) (bX:jN X) (bY:jN Y):
  Calls Tryz.prog 119 #[.agg #[.bool false,dv],.agg #[.bool false,ev]] w (kN (sg false (X*Y)) w):=by
 obtain⟨ps,A,c,rfl,e1,o1,l1,s1⟩:=h1.slice bX;obtain⟨qs,B,d,rfl,e2,o2,l2,s2⟩:=h2.slice bY
 obtain⟨W0,hW0⟩:∃W0,W0=((w.alloc (.cells #[.bool false,.slice A ps.length c] 127)).alloc (.cells #[.bool false,.slice B qs.length d] 127)).alloc (.cells #[.bool false,.slice none 0 0] 127):=⟨_,rfl⟩
 have hP:P3 w W0 false false (.slice A ps.length c) (.slice B qs.length d):=by rw[hW0];exact P3.mk w false false _ _
 have F1:Hid (∀W,Below w.heap.size w W→Calls Tryz.prog 187 #[.slice A ps.length c,.slice B qs.length d] W (zY (X*Y) W)):=hid (fun W hb=>(Kd _ _ X Y W (h1.below hb) (h2.below hb) bX bY).mono fun e w' h=>by
  obtain⟨v,rfl,⟨ws,q1,q2,q3,q4⟩,hB⟩:=h
  exact⟨v,ws,rfl,q1,q2,q4,hB⟩)
 have KS:=hid (S3.start hP);have hR0:=hid hP.2.2.2.2;clear h1 h2 s1 s2 hP o1 o2 l1 l2 e1 e2 bX bY;generalize ps.length=n at *;generalize qs.length=m at *;obtain⟨a0,a1,b0,b1,hsz,hbl⟩:=KS.out.all;go_enter Tryz.func119,Tryz.ntmps119
 go_upto_region 1 with fail
 rw[←hW0];clear hW0
 go_wp2_with fail
 go_region_held3 (fun x=>x.cell? ⟨w.heap.size,0,none⟩=some (.bool false)∧x.cell? ⟨w.heap.size,1,none⟩=some (.slice A n c)∧x.cell? ⟨w.heap.size+1,0,none⟩=some (.bool false)∧x.cell? ⟨w.heap.size+1,1,none⟩=some (.slice B m d)∧w.heap.size+2<x.heap.size∧Below w.heap.size w x)
  (first | exact KS.out.drew.all | exact(KS.out.call (by assumption)).drew.all | (go_split_ands;exact S3.all (S3.call (by assumption) ⟨by assumption,by assumption,by assumption,by assumption,by assumption,by assumption⟩)) | (go_split_ands;exact S3.all (S3.put _ _ ⟨by assumption,by assumption,by assumption,by assumption,by assumption,by assumption⟩)))
  (first
   | (go_at_call 187;go_split_ands;refine(F1.out _ (by assumption)).mono ?_;rintro e3 w3 ⟨lv,L,rfl,hLv,hLo,hLs,hB3⟩;have hR3:=qj hB3 hR0)
   | (go_at_call 183;go_split_ands;refine(xj false lv L _ hLo hLs).mono ?_;rintro e4 w4 ⟨rv,rfl,hri,hB4⟩;have hR4:=qj hB4 hR3;obtain⟨r0,r1,k0,k1⟩:=hR4.out.two;obtain⟨RA,rn,rc,rfl,hr1,hr2⟩:=hri.open_))
 rw[hLv] at hri;have HRF:=hid (hri.put2 (a':= .bool (decide (sg false (X*Y)<0))) (b':= .slice RA rn rc) hR4.out (js _) (jq _ _ _) (js _));have HBF:Hid (Below w.heap.size w ((w4.setCell ⟨w.heap.size+1+1,0,none⟩ (.bool (decide (sg false (X*Y)<0)))).setCell ⟨w.heap.size+1+1,1,none⟩ (.slice RA rn rc))):=hid (by go_split_ands;assumption)
 go_wp2
 obtain⟨z0,z1,_,_⟩:=(hR4.out.set2 (a':= .bool (decide (sg false (X*Y)<0))) (b':= .slice RA rn rc)).two;exact bodyPost_ret (v:= .agg #[.bool (decide (sg false (X*Y)<0)),.slice RA rn rc]) (by simp[results,Tryz.results119,go_sem,z0,z1]) rfl ⟨_,rfl,HRF.out,HBF.out⟩
def UG (r:Int) (w:World) (e:Ending) (w':World):Prop:=e = .returned (.int .i64 r)∧Below w.heap.size w w'
theorem Af (na nb:Bool) (dv ev:Value) (X Y:Nat) (w:World) (h1:Dg w dv X) (h2:Dg w ev Y) (bX:jN X) (bY:jN Y) (hab:(na==nb)=true):
  Calls Tryz.prog 118 #[.agg #[.bool na,dv],.agg #[.bool nb,ev]] w (kN (sg na (X+Y)) w):=by
 obtain⟨ps,A,c,rfl,e1,o1,l1,s1⟩:=h1.slice bX;obtain⟨qs,B,d,rfl,e2,o2,l2,s2⟩:=h2.slice bY
 obtain⟨W0,hW0⟩:∃W0,W0=((w.alloc (.cells #[.bool na,.slice A ps.length c] 127)).alloc (.cells #[.bool nb,.slice B qs.length d] 127)).alloc (.cells #[.bool false,.slice none 0 0] 127):=⟨_,rfl⟩
 have hP:P3 w W0 na nb (.slice A ps.length c) (.slice B qs.length d):=by rw[hW0];exact P3.mk w na nb _ _
 have F1:Hid (∀W,Below w.heap.size w W→Calls Tryz.prog 184 #[.slice A ps.length c,.slice B qs.length d] W (zY (X+Y) W)):=hid (fun W hb=>by
  have h:=Er _ _ ps qs W (s1.below hb) (s2.below hb) o1 o2 l1 l2
  rw[e1,e2] at h;exact h)
 have KS:=hid (S3.start hP);have hR0:=hid hP.2.2.2.2;clear h1 h2 s1 s2 hP o1 o2 l1 l2 e1 e2 bX bY;generalize ps.length=n at *;generalize qs.length=m at *;obtain⟨a0,a1,b0,b1,hsz,hbl⟩:=KS.out.all;go_enter Tryz.func118,Tryz.ntmps118
 go_upto_region 1 with fail
 rw[←hW0];clear hW0
 go_wp2_with fail
 go_region_held3 (fun x=>x.cell? ⟨w.heap.size,0,none⟩=some (.bool na)∧x.cell? ⟨w.heap.size,1,none⟩=some (.slice A n c)∧x.cell? ⟨w.heap.size+1,0,none⟩=some (.bool nb)∧x.cell? ⟨w.heap.size+1,1,none⟩=some (.slice B m d)∧w.heap.size+2<x.heap.size∧Below w.heap.size w x)
  (first | exact KS.out.drew.all | exact(KS.out.call (by assumption)).drew.all | (go_split_ands;exact S3.all (S3.call (by assumption) ⟨by assumption,by assumption,by assumption,by assumption,by assumption,by assumption⟩)) | (go_split_ands;exact S3.all (S3.put _ _ ⟨by assumption,by assumption,by assumption,by assumption,by assumption,by assumption⟩)))
  (first
   | (go_at_call 184;go_split_ands;refine(F1.out _ (by assumption)).mono ?_;rintro e3 w3 ⟨lv,L,rfl,hLv,hLo,hLs,hB3⟩;have hR3:=qj hB3 hR0)
   | (go_at_call 183;go_split_ands;refine(xj na lv L _ hLo hLs).mono ?_;rintro e4 w4 ⟨rv,rfl,hri,hB4⟩;have hR4:=qj hB4 hR3;obtain⟨r0,r1,k0,k1⟩:=hR4.out.two;obtain⟨RA,rn,rc,rfl,hr1,hr2⟩:=hri.open_))
 rw[hLv] at hri;have HRF:=hid (hri.put2 (a':= .bool (decide (sg na (X+Y)<0))) (b':= .slice RA rn rc) hR4.out (js _) (jq _ _ _) (js _));have HBF:Hid (Below w.heap.size w ((w4.setCell ⟨w.heap.size+1+1,0,none⟩ (.bool (decide (sg na (X+Y)<0)))).setCell ⟨w.heap.size+1+1,1,none⟩ (.slice RA rn rc))):=hid (by go_split_ands;assumption)
 go_wp2
 obtain⟨z0,z1,_,_⟩:=(hR4.out.set2 (a':= .bool (decide (sg na (X+Y)<0))) (b':= .slice RA rn rc)).two;exact bodyPost_ret (v:= .agg #[.bool (decide (sg na (X+Y)<0)),.slice RA rn rc]) (by simp[results,Tryz.results118,go_sem,z0,z1]) rfl ⟨_,rfl,HRF.out,HBF.out⟩
theorem Ab (na nb:Bool) (dv ev:Value) (X Y:Nat) (w:World) (h1:Dg w dv X) (h2:Dg w ev Y) (bX:jN X) (bY:jN Y) (hab:(na==nb)=false) (hle:Y≤X):
  Calls Tryz.prog 118 #[.agg #[.bool na,dv],.agg #[.bool nb,ev]] w (kN (sg na (X-Y)) w):=by
 obtain⟨ps,A,c,rfl,e1,o1,l1,s1⟩:=h1.slice bX;obtain⟨qs,B,d,rfl,e2,o2,l2,s2⟩:=h2.slice bY
 obtain⟨W0,hW0⟩:∃W0,W0=((w.alloc (.cells #[.bool na,.slice A ps.length c] 127)).alloc (.cells #[.bool nb,.slice B qs.length d] 127)).alloc (.cells #[.bool false,.slice none 0 0] 127):=⟨_,rfl⟩
 have hP:P3 w W0 na nb (.slice A ps.length c) (.slice B qs.length d):=by rw[hW0];exact P3.mk w na nb _ _
 have F1:Hid (∀W,Below w.heap.size w W→Calls Tryz.prog 186 #[.slice A ps.length c,.slice B qs.length d] W (zY (X-Y) W)):=hid (fun W hb=>by
  exact(GI _ _ _ _ W (h1.below hb) (h2.below hb) hle bX).mono fun e w' h=>by
   obtain⟨v,rfl,⟨ws,q1,q2,q3,q4⟩,hB⟩:=h
   exact⟨v,ws,rfl,q1,q2,q4,hB⟩)
 have C1:Hid (∀W,Below w.heap.size w W→Calls Tryz.prog 185 #[.slice A ps.length c,.slice B qs.length d] W (UG (kj X Y) W)):=hid (fun W hb=>KG _ _ X Y W (h1.below hb) (h2.below hb));have KS:=hid (S3.start hP);have hR0:=hid hP.2.2.2.2;clear h1 h2 s1 s2 hP o1 o2 l1 l2 e1 e2 bX bY;have hor:(0:Int)≤kj X Y:=JB hle;generalize ps.length=n at *;generalize qs.length=m at *;obtain⟨a0,a1,b0,b1,hsz,hbl⟩:=KS.out.all;go_enter Tryz.func118,Tryz.ntmps118
 go_upto_region 1 with fail
 rw[←hW0];clear hW0
 go_wp2_with fail
 refine(C1.out _ hbl).mono ?_;rintro e w1 ⟨rfl,hB1⟩;replace KS:=hid (KS.out.call hB1);have hR1:=qj hB1 hR0;clear a0 a1 b0 b1 hsz hbl hB1 C1 hR0;obtain⟨a0,a1,b0,b1,hsz,hbl⟩:=KS.out.all
 go_wp2_with fail
 go_region_held3 (fun x=>x.cell? ⟨w.heap.size,0,none⟩=some (.bool na)∧x.cell? ⟨w.heap.size,1,none⟩=some (.slice A n c)∧x.cell? ⟨w.heap.size+1,0,none⟩=some (.bool nb)∧x.cell? ⟨w.heap.size+1,1,none⟩=some (.slice B m d)∧w.heap.size+2<x.heap.size∧Below w.heap.size w x)
  (first | exact KS.out.drew.all | exact(KS.out.call (by assumption)).drew.all | (go_split_ands;exact S3.all (S3.call (by assumption) ⟨by assumption,by assumption,by assumption,by assumption,by assumption,by assumption⟩)) | (go_split_ands;exact S3.all (S3.put _ _ ⟨by assumption,by assumption,by assumption,by assumption,by assumption,by assumption⟩)))
  (first
   | (go_at_call 186;go_split_ands;refine(F1.out _ (by assumption)).mono ?_;rintro e3 w3 ⟨lv,L,rfl,hLv,hLo,hLs,hB3⟩;have hR3:=qj hB3 hR1)
   | (go_at_call 183;go_split_ands;refine(xj na lv L _ hLo hLs).mono ?_;rintro e4 w4 ⟨rv,rfl,hri,hB4⟩;have hR4:=qj hB4 hR3;obtain⟨r0,r1,k0,k1⟩:=hR4.out.two;obtain⟨RA,rn,rc,rfl,hr1,hr2⟩:=hri.open_))
 rw[hLv] at hri;have HRF:=hid (hri.put2 (a':= .bool (decide (sg na (X-Y)<0))) (b':= .slice RA rn rc) hR4.out (js _) (jq _ _ _) (js _));have HBF:Hid (Below w.heap.size w ((w4.setCell ⟨w.heap.size+1+1,0,none⟩ (.bool (decide (sg na (X-Y)<0)))).setCell ⟨w.heap.size+1+1,1,none⟩ (.slice RA rn rc))):=hid (by go_split_ands;assumption)
 go_wp2
 obtain⟨z0,z1,_,_⟩:=(hR4.out.set2 (a':= .bool (decide (sg na (X-Y)<0))) (b':= .slice RA rn rc)).two;exact bodyPost_ret (v:= .agg #[.bool (decide (sg na (X-Y)<0)),.slice RA rn rc]) (by simp[results,Tryz.results118,go_sem,z0,z1]) rfl ⟨_,rfl,HRF.out,HBF.out⟩
theorem Ad (na nb:Bool) (dv ev:Value) (X Y:Nat) (w:World) (h1:Dg w dv X) (h2:Dg w ev Y) (bX:jN X) (bY:jN Y) (hab:(na==nb)=false) (hlt:X<Y):
  Calls Tryz.prog 118 #[.agg #[.bool na,dv],.agg #[.bool nb,ev]] w (kN (sg nb (Y-X)) w):=by
 obtain⟨ps,A,c,rfl,e1,o1,l1,s1⟩:=h1.slice bX;obtain⟨qs,B,d,rfl,e2,o2,l2,s2⟩:=h2.slice bY
 obtain⟨W0,hW0⟩:∃W0,W0=((w.alloc (.cells #[.bool na,.slice A ps.length c] 127)).alloc (.cells #[.bool nb,.slice B qs.length d] 127)).alloc (.cells #[.bool false,.slice none 0 0] 127):=⟨_,rfl⟩
 have hP:P3 w W0 na nb (.slice A ps.length c) (.slice B qs.length d):=by rw[hW0];exact P3.mk w na nb _ _
 have F1:Hid (∀W,Below w.heap.size w W→Calls Tryz.prog 186 #[.slice B qs.length d,.slice A ps.length c] W (zY (Y-X) W)):=hid (fun W hb=>by
  exact(GI _ _ _ _ W (h2.below hb) (h1.below hb) (Nat.le_of_lt hlt) bY).mono fun e w' h=>by
   obtain⟨v,rfl,⟨ws,q1,q2,q3,q4⟩,hB⟩:=h
   exact⟨v,ws,rfl,q1,q2,q4,hB⟩)
 have C1:Hid (∀W,Below w.heap.size w W→Calls Tryz.prog 185 #[.slice A ps.length c,.slice B qs.length d] W (UG (kj X Y) W)):=hid (fun W hb=>KG _ _ X Y W (h1.below hb) (h2.below hb));have KS:=hid (S3.start hP);have hR0:=hid hP.2.2.2.2;clear h1 h2 s1 s2 hP o1 o2 l1 l2 e1 e2 bX bY
 have hor:¬(0:Int)≤kj X Y:=by rw[Jc hlt];decide
 generalize ps.length=n at *;generalize qs.length=m at *;obtain⟨a0,a1,b0,b1,hsz,hbl⟩:=KS.out.all;go_enter Tryz.func118,Tryz.ntmps118
 go_upto_region 1 with fail
 rw[←hW0];clear hW0
 go_wp2_with fail
 refine(C1.out _ hbl).mono ?_;rintro e w1 ⟨rfl,hB1⟩;replace KS:=hid (KS.out.call hB1);have hR1:=qj hB1 hR0;clear a0 a1 b0 b1 hsz hbl hB1 C1 hR0;obtain⟨a0,a1,b0,b1,hsz,hbl⟩:=KS.out.all
 go_wp2_with fail
 go_region_held3 (fun x=>x.cell? ⟨w.heap.size,0,none⟩=some (.bool na)∧x.cell? ⟨w.heap.size,1,none⟩=some (.slice A n c)∧x.cell? ⟨w.heap.size+1,0,none⟩=some (.bool nb)∧x.cell? ⟨w.heap.size+1,1,none⟩=some (.slice B m d)∧w.heap.size+2<x.heap.size∧Below w.heap.size w x)
  (first | exact KS.out.drew.all | exact(KS.out.call (by assumption)).drew.all | (go_split_ands;exact S3.all (S3.call (by assumption) ⟨by assumption,by assumption,by assumption,by assumption,by assumption,by assumption⟩)) | (go_split_ands;exact S3.all (S3.put _ _ ⟨by assumption,by assumption,by assumption,by assumption,by assumption,by assumption⟩)))
  (first
   | (go_at_call 186;go_split_ands;refine(F1.out _ (by assumption)).mono ?_;rintro e3 w3 ⟨lv,L,rfl,hLv,hLo,hLs,hB3⟩;have hR3:=qj hB3 hR1)
   | (go_at_call 183;go_split_ands;refine(xj nb lv L _ hLo hLs).mono ?_;rintro e4 w4 ⟨rv,rfl,hri,hB4⟩;have hR4:=qj hB4 hR3;obtain⟨r0,r1,k0,k1⟩:=hR4.out.two;obtain⟨RA,rn,rc,rfl,hr1,hr2⟩:=hri.open_))
 rw[hLv] at hri;have HRF:=hid (hri.put2 (a':= .bool (decide (sg nb (Y-X)<0))) (b':= .slice RA rn rc) hR4.out (js _) (jq _ _ _) (js _));have HBF:Hid (Below w.heap.size w ((w4.setCell ⟨w.heap.size+1+1,0,none⟩ (.bool (decide (sg nb (Y-X)<0)))).setCell ⟨w.heap.size+1+1,1,none⟩ (.slice RA rn rc))):=hid (by go_split_ands;assumption)
 go_wp2
 obtain⟨z0,z1,_,_⟩:=(hR4.out.set2 (a':= .bool (decide (sg nb (Y-X)<0))) (b':= .slice RA rn rc)).two;exact bodyPost_ret (v:= .agg #[.bool (decide (sg nb (Y-X)<0)),.slice RA rn rc]) (by simp[results,Tryz.results118,go_sem,z0,z1]) rfl ⟨_,rfl,HRF.out,HBF.out⟩
theorem Ct (na nb:Bool) (X Y:Nat):sg na X+sg nb Y=if (na==nb)=true then sg na (X+Y) else if Y≤X then sg na (X-Y) else sg nb (Y-X):=by
 unfold sg;cases na <;> cases nb <;> simp <;> (try split) <;> omega
theorem Cs (na nb:Bool) (X Y:Nat):sg na X*sg nb Y=sg (na != nb) (X*Y):=by
 unfold sg;cases na <;> cases nb <;> simp[Int.neg_mul,Int.mul_neg]
theorem BR (v u:Value) (x y:Int) (w:World) (hx:Ri w v x) (hy:Ri w u y) (bx:jN x.natAbs) (by_:jN y.natAbs):Calls Tryz.prog 118 #[v,u] w (kN (x+y) w):=by
 obtain⟨na,X,dv,rfl,e1,n1,d1⟩:=XD hx;obtain⟨nb,Y,ev,rfl,e2,n2,d2⟩:=XD hy;rw[←n1] at bx;rw[←n2] at by_;rw[e1,e2,Ct];by_cases hab:(na==nb)=true
 ·rw[if_pos hab];exact Af na nb dv ev X Y w d1 d2 bx by_ hab
 ·rw[if_neg hab]
  by_cases hle:Y≤X
  ·rw[if_pos hle];exact Ab na nb dv ev X Y w d1 d2 bx by_ (by simpa using hab) hle
  ·rw[if_neg hle];exact Ad na nb dv ev X Y w d1 d2 bx by_ (by simpa using hab) (by omega)
theorem Qh (v u:Value) (x y:Int) (w:World) (hx:Ri w v x) (hy:Ri w u y) (bx:jN x.natAbs) (by_:jN y.natAbs):Calls Tryz.prog 119 #[v,u] w (kN (x*y) w):=by
 obtain⟨na,X,dv,rfl,e1,n1,d1⟩:=XD hx;obtain⟨nb,Y,ev,rfl,e2,n2,d2⟩:=XD hy;rw[←n1] at bx;rw[←n2] at by_;rw[e1,e2,Cs];cases na <;> cases nb
 ·exact Fc dv ev X Y w d1 d2 bx by_
 ·exact Fe dv ev X Y w d1 d2 bx by_
 ·exact Fg dv ev X Y w d1 d2 bx by_
 ·exact Fh dv ev X Y w d1 d2 bx by_
theorem Qa {w:World} {o:Obj} {t:TypeId} {cs:List Value} :ja ((w.alloc o).alloc (.cells cs.toArray t)) (w.heap.size+1) t cs:=by
 have h:=ja.make (w.alloc o) t cs;simp only[World.size_alloc] at h;exact h
theorem Cu (x:Int):sg (!decide (x<0)) x.natAbs = -x:=by
 by_cases h:x<0
 ·rw[decide_eq_true h];unfold sg;rw[if_neg (by decide)];omega
 ·rw[decide_eq_false h];unfold sg;rw[if_pos (by decide)];omega
theorem W7 (v:Value) (x:Int) (w:World) (h:Ri w v x):Calls Tryz.prog 181 #[v] w (kN (-x) w):=by
 obtain⟨dv,ws,rfl,hv,hok,hn,hs⟩:=h;obtain⟨A,c,rfl,hc1,hc2⟩:=hs.form;have hX:=Cu x;rw[←hv] at hX;generalize decide (x<0)=bx at *;have HB0:Hid (Below w.heap.size w ((w.alloc (.cells #[.bool bx,.slice A (jp ws).length c] 127)).alloc (.cells #[.bool false,.slice none 0 0] 127))):=hid (((Below.refl _ _).alloc (Nat.le_refl _) _).alloc (by simp) _);have HOw:Hid (ja ((w.alloc (.cells #[.bool bx,.slice A (jp ws).length c] 127)).alloc (.cells #[.bool false,.slice none 0 0] 127)) (w.heap.size+1) 127 [.bool false,.slice none 0 0]):=hid Qa;have SG:=hid (xj (!bx) (.slice A (jp ws).length c) ws _ hok (hs.below HB0.out));rw[hX] at SG;clear hX hs hok hn hv;generalize (jp ws).length=n at *;go_enter Tryz.func181,Tryz.ntmps181
 go_wp2_with fail
 refine SG.out.mono ?_;rintro e w2 ⟨rv,rfl,hri,hB2⟩;obtain⟨RA,rn,rc,rfl,hr1,hr2⟩:=hri.open_;generalize hbz:decide (-x<0)=bz at *;have HO2:=hid (HOw.out.below hB2 HOw.out.lt);obtain⟨c0,c1,f0,f1⟩:=HO2.out.two;have HRF:=hid (hri.put2 (a':= .bool bz) (b':= .slice RA rn rc) HO2.out (js _) (jq _ _ _) (js _));have HBF:Hid (Below w.heap.size w ((w2.setCell ⟨w.heap.size+1,0,none⟩ (.bool bz)).setCell ⟨w.heap.size+1,1,none⟩ (.slice RA rn rc))):=hid (((HB0.out.trans (hB2.mono HB0.out.size)).setCell (p:=⟨w.heap.size+1,0,none⟩) (Nat.le_succ _) _).setCell (p:=⟨w.heap.size+1,1,none⟩) (Nat.le_succ _) _);clear hri hB2 hbz
 go_wp2
 obtain⟨z0,z1,_,_⟩:=(HO2.out.set2 (a':= .bool bz) (b':= .slice RA rn rc)).two;exact bodyPost_ret (v:= .agg #[.bool bz,.slice RA rn rc]) (by simp[results,Tryz.results181,go_sem,z0,z1]) rfl ⟨_,rfl,HRF.out,HBF.out⟩
theorem JY {x:Nat} (h:jN x):(decDigits x).length≤9000001:=by
 rw[decDigits_length]
 have h2:B9^xo=10^(9*xo):=by rw[Nat.pow_mul]
 have h3:10^(9*xo)≤10^(9*xo+1):=Nat.pow_le_pow_right (by decide) (by omega);have h4:=zC (9*xo) x (by unfold jN at h;rw[h2] at h;omega);have:=YX;omega
theorem YT {neg:Bool} {n:Nat} (h:neg=true→0<n):xe (sg neg n)=(if neg then [45] else [])++decDigits n:=by
 unfold xe;rw[Kq]
 cases neg with
 | true=>
  have:=h rfl;rw[if_pos (by unfold sg;rw[if_pos rfl];omega),if_pos rfl]
 | false=>rw[if_neg (by unfold sg;rw[if_neg (by decide)];omega),if_neg (by decide)]
theorem VC (n:Nat):xe (sg false n)=decDigits n:=by rw[YT (by simp)];rfl
theorem JC (x:Int) (d:Nat):(x:Rat)/((d:Int):Rat)=mkRat x d:=by
 rw[←Rat.divInt_eq_div];exact Rat.divInt_ofNat x d
theorem XJ {q:Nat} {w:World} {v:Value} (h:Dg w v q) (h0:0<q) (h9:q≠1):
  (∃A n c,v = .slice A n c∧((n:Int)==1)=false∧n≤140737488355328)∨(∃b off c,v = .slice (some ⟨b,off,none⟩) 1 c∧b<w.heap.size∧w.cell? ⟨b,off,none⟩=some (.int .i64 (q:Int))∧((q:Int)==1)=false):=by
 rcases Nat.lt_or_ge q B9 with hq | hq
 ·obtain⟨b,off,c,rfl,hb,hc⟩:=h.one h0 hq
  exact .inr ⟨b,off,c,rfl,hb,hc,by simpa using (by omega:¬(q:Int)=1)⟩
 ·obtain⟨p,A,c,rfl,e1,o1,n1,l1,l2,s1⟩:=h.open_
  refine .inl ⟨A,p.length,c,rfl,?_,l2⟩
  have:p.length≠1:=by
   intro hl;have h1:=qz o1;rw[hl,Nat.pow_one] at h1;omega
  simpa using (by omega:¬(p.length:Int)=1)
