/- Contracts of the reference: digits added and taken away. -/
import Derived.Test.YtneafcdfnhnpnaaGreatDoorZD24
import Derived.Test.YtneafcdfnhnpnaaGreatDoorZD27
import Derived.Test.YtneafcdfnhnpnaaGreatDoorZD25
set_option maxRecDepth 100000
set_option maxHeartbeats 4000000
namespace Go.Proofs.YtneafcdfnhnpnaaGreatDoor
open Go.RowKit Go.Lib
theorem Wn {w:World} {base:Nat} {e:TypeId} {size:Nat} {v:Value} {n:Nat} {xs:List Value} (h:w.ownsRow base e size v n xs) (k:Nat):(w.drewN k).ownsRow base e size v n xs:=h
theorem QM (ws:List Nat) (k:Nat):jb (ws.take (k+1))=jb (ws.take k)+B9^k*ws[k]?.getD 0:=by
 rcases Nat.lt_or_ge k ws.length with h | h
 ·rw[yN ws k h,zR,List.length_take,Nat.min_eq_left (by omega)]
 ·rw[List.take_of_length_le (by omega),List.take_of_length_le h,List.getElem?_eq_none h];simp
theorem Yv (v:Value) (ws:List Nat) (i:Nat) (w:World) (hv:jB w v (jo ws)):
  Calls Tryz.prog 231 #[v,.int .i64 (i:Int)] w fun e w'=>e = .returned (.int .i64 ((ws[i]?.getD 0:Nat):Int))∧w=w':=by
 obtain⟨A,c,rfl,hc1,hc2⟩:=hv.form;simp only[kg] at *;rcases Nat.lt_or_ge i ws.length with h | h
 ·have hI:(i:Int)<(ws.length:Int):=by omega
  obtain⟨b,off,rfl,hb,hcell⟩:=hv.at_ (k:=i) (by rw[kg];omega);have hck:=(hcell i (by rw[kg];omega)).trans (qf ws i h);generalize ws[i]?.getD 0=x at *;clear hcell hv;go_enter Tryz.func231,Tryz.ntmps231
  go_wp2
  go_ret;exact⟨rfl,rfl⟩
 ·have hI:¬(i:Int)<(ws.length:Int):=by omega
  have HX:Hid (ws[i]?.getD 0=0):=hid (by rw[List.getElem?_eq_none h];rfl);clear hv h;go_enter Tryz.func231,Tryz.ntmps231
  go_wp2
  go_ret;exact⟨by rw[HX.out];rfl,rfl⟩
def yQ (p q:List Nat) (k c:Nat) (L:List Nat):Prop:=L.length=k∧jF L∧c≤1∧jb L+B9^k*c=jb (p.take k)+jb (q.take k)
theorem yQ.start (p q:List Nat):yQ p q 0 0 []:=⟨rfl,JY,by omega,by simp[jb]⟩
theorem yQ.step {p q:List Nat} {k c:Nat} {L:List Nat} (h:yQ p q k c L) (op:jF p) (oq:jF q) {s:Nat} (hs:p[k]?.getD 0+q[k]?.getD 0+c=s):yQ p q (k+1) (s/B9) (L++[s%B9]):=by
 obtain⟨h1,h2,h3,h4⟩:=h;have hx:=kJ op k;have hy:=kJ oq k;have e:=Nat.div_add_mod s B9;have hr:s%B9<B9:=Nat.mod_lt _ (by decide);unfold yQ;rw[QM,QM,zR,h1,Nat.pow_succ,Nat.mul_assoc];generalize s/B9=t at *;generalize s%B9=r at *;generalize p[k]?.getD 0=x at *;generalize q[k]?.getD 0=y at *
 have e2:B9^k*(B9*t+r)=B9^k*(x+y+c):=by rw[e,hs]
 rw[Nat.mul_add,Nat.mul_add,Nat.mul_add] at e2;refine⟨by simp[h1],JX.2 ⟨h2,Jm.2 hr⟩,by unfold B9 at *;omega,?_⟩;generalize B9^k=P at *;generalize P*(B9*t)=Z1 at *;generalize P*r=Z2 at *;generalize P*x=Z3 at *;generalize P*y=Z4 at *;generalize P*c=Z5 at *;omega
theorem yQ.last {p q:List Nat} {k c:Nat} {L:List Nat} (h:yQ p q k c L) (hp:p.length≤k) (hq:q.length≤k) (hc:c=0):jb L=jb p+jb q:=by
 have h4:=h.2.2.2;rw[List.take_of_length_le hp,List.take_of_length_le hq,hc] at h4;simpa using h4
theorem FM {x y c s:Nat} (hx:x=0) (hy:y=0) (hc:c≤1) (hs:x+y+c=s):s/B9=0:=Nat.div_eq_of_lt (by unfold B9;omega)
def zV (x:Nat) (w:World) (e:Ending) (w':World):Prop:=∃v L,e = .returned v∧jb L=x∧jF L∧jB w' v (jo L)∧Below w.heap.size w w'
theorem EF (v u:Value) (p q:List Nat) (w:World) (hv:jB w v (jo p)) (hu:jB w u (jo q)) (op:jF p) (oq:jF q) (hp:p.length≤1000000) (hq:q.length≤1000000):
  Calls Tryz.prog 184 #[v,u] w (zV (jb p+jb q) w):=by
 obtain⟨A,c,rfl,hc1,hc2⟩:=hv.form;obtain⟨B,d,rfl,gc1,gc2⟩:=hu.form;simp only[kg] at *;obtain⟨i0,hi,hz0,hz1,hz2⟩:=info_parts y9
 obtain⟨m,hpm,hqm,hm6⟩:∃m,p.length≤m∧q.length≤m∧m≤1000000:=⟨max p.length q.length,by omega,by omega,by omega⟩
 have HV:=hid hv;have HU:=hid hu;have HOP:=hid op;have HOQ:=hid oq;clear hv hu op oq;go_enter Tryz.func184,Tryz.ntmps184
 go_wp2_with fail
 go_loopg [5,6,7,8] (m+1) (fun g out cr i _ wr=>∃(k c':Nat) (L:List Nat),i = .int .i64 (k:Int)∧cr = .int .i64 (c':Int)∧k+g=m+1∧Hid (yQ p q k c' L)∧Hid (g=0→c'=0)∧Hid (wr.ownsRow w.heap.size 3 1 out k (jo L))∧Hid (Below w.heap.size w wr))
 case atStart=>exact⟨0,0,[],rfl,rfl,by omega,hid (yQ.start p q),hid (fun h=>rfl),hid (World.ownsRow_nil _ _ _ _),hid (Below.refl _ _)⟩
 case round=>
  obtain⟨k,c',L,rfl,rfl,hk,hI,hZ,hO,hB⟩:=hrel;have hc1':c'≤1:=hI.out.2.2.1;have hs:=hB.out.size;by_cases hgo:k<p.length∨k<q.length∨0<c'
  ·obtain⟨g,rfl⟩:∃g,gk=g+1:=⟨gk-1,by
    rcases Nat.eq_zero_or_pos gk with h0 | h0
    ·have:=hZ.out h0;omega
    ·omega⟩
   have hkm:k≤1000000:=by omega
   have D1:Hid (Calls Tryz.prog 231 #[.slice A p.length c,.int .i64 (k:Int)] wr fun e w'=>e = .returned (.int .i64 ((p[k]?.getD 0:Nat):Int))∧wr=w'):=hid (Yv _ p k wr (HV.out.below hB.out));have D2:Hid (Calls Tryz.prog 231 #[.slice B q.length d,.int .i64 (k:Int)] wr fun e w'=>e = .returned (.int .i64 ((q[k]?.getD 0:Nat):Int))∧wr=w'):=hid (Yv _ q k wr (HU.out.below hB.out));have hx9:=kJ HOP.out k;have hy9:=kJ HOQ.out k;have HST:=hid (fun s hs=>hI.out.step (s:=s) HOP.out HOQ.out hs);have HZ2:Hid (∀s,p[k]?.getD 0+q[k]?.getD 0+c'=s→g=0→s/B9=0):=hid (fun s hs h0=>FM (by rw[List.getElem?_eq_none (by omega)];rfl) (by rw[List.getElem?_eq_none (by omega)];rfl) hc1' hs);generalize p[k]?.getD 0=x at *;generalize q[k]?.getD 0=y at *
   obtain⟨s,hss⟩:∃s,x+y+c'=s:=⟨_,rfl⟩
   have HS:=hid (HST.out s hss);have HZ3:=hid (HZ2.out s hss);have Q1:Hid (((x:Int)+(y:Int)+(c':Int))/1000000000=((s/B9:Nat):Int)):=hid (by rw[←hss,Int.natCast_ediv,Int.natCast_add,Int.natCast_add];rfl);have Q2:Hid (((x:Int)+(y:Int)+(c':Int))%1000000000=((s%B9:Nat):Int)):=hid (by rw[←hss,Int.natCast_emod,Int.natCast_add,Int.natCast_add];rfl)
   have hxI:(x:Int)<1000000000:=by unfold B9 at hx9;omega
   have hyI:(y:Int)<1000000000:=by unfold B9 at hy9;omega
   have hcI:(c':Int)≤1:=by omega
   have Hk:=hid hk;clear hss HST HZ2 hx9 hy9 hk hI hZ hc1';by_cases h1:k<p.length
   ·have h1I:(k:Int)<(p.length:Int):=by omega
    clear h1 hgo
    go_wp2_with fail
    refine D1.out.mono ?_;rintro e w1 ⟨rfl,rfl⟩
    go_wp2_with fail
    refine D2.out.mono ?_;rintro e w1 ⟨rfl,rfl⟩
    go_wp2_with (at_builtin;(refine wpList_append_own _ rfl _ _ 50 rfl w.heap.size 3 i0 (.int .i64 0) 1 8 Tryz.underlying50 hi hz0 hz1 hz2 rfl (by decide) _ _ _ rfl (hO.out.alloc _) ⟨wr.heap.size,0,none⟩ 1 1 [.int .i64 (((x:Int)+(y:Int)+(c':Int))%1000000000)] rfl rfl (cell_one_new _ _ _) (fun x hx=>by simp at hx;subst hx;rfl) (by unfold maxLen;omega) (by omega) (by simp;omega) ?_;intro v' w1 hown' hgrow _))
    rw[Q2.out,←xX] at hown';have HO':=hid hown';have HB':=hid (Below.grown (hB.out.alloc hs (.cells #[.int .i64 (((x:Int)+(y:Int)+(c':Int))%1000000000)] 3)) hgrow (by simp;omega) (fun j hj=>by have:=(hO.out.lt _ hj).1;omega));clear hown' hgrow
    go_wp2
    go_roundg g
    case rel=>exact⟨k+1,s/B9,L++[s%B9],by go_num,by rw[Q1.out],by have:=Hk.out;omega,HS,HZ3,HO',HB'⟩
    case measure=>omega
   ·have h1I:¬(k:Int)<(p.length:Int):=by omega
    by_cases h2:k<q.length
    ·have h2I:(k:Int)<(q.length:Int):=by omega
     clear h1 h2 hgo
     go_wp2_with fail
     refine D1.out.mono ?_;rintro e w1 ⟨rfl,rfl⟩
     go_wp2_with fail
     refine D2.out.mono ?_;rintro e w1 ⟨rfl,rfl⟩
     go_wp2_with (at_builtin;(refine wpList_append_own _ rfl _ _ 50 rfl w.heap.size 3 i0 (.int .i64 0) 1 8 Tryz.underlying50 hi hz0 hz1 hz2 rfl (by decide) _ _ _ rfl (hO.out.alloc _) ⟨wr.heap.size,0,none⟩ 1 1 [.int .i64 (((x:Int)+(y:Int)+(c':Int))%1000000000)] rfl rfl (cell_one_new _ _ _) (fun x hx=>by simp at hx;subst hx;rfl) (by unfold maxLen;omega) (by omega) (by simp;omega) ?_;intro v' w1 hown' hgrow _))
     rw[Q2.out,←xX] at hown';have HO':=hid hown';have HB':=hid (Below.grown (hB.out.alloc hs (.cells #[.int .i64 (((x:Int)+(y:Int)+(c':Int))%1000000000)] 3)) hgrow (by simp;omega) (fun j hj=>by have:=(hO.out.lt _ hj).1;omega));clear hown' hgrow
     go_wp2
     go_roundg g
     case rel=>exact⟨k+1,s/B9,L++[s%B9],by go_num,by rw[Q1.out],by have:=Hk.out;omega,HS,HZ3,HO',HB'⟩
     case measure=>omega
    ·have h2I:¬(k:Int)<(q.length:Int):=by omega
     obtain rfl:c'=1:=by omega
     clear h1 h2 hgo hcI;replace Q1:Hid (((x:Int)+(y:Int)+1)/1000000000=((s/B9:Nat):Int)):=hid Q1.out;replace Q2:Hid (((x:Int)+(y:Int)+1)%1000000000=((s%B9:Nat):Int)):=hid Q2.out
     go_wp2_with fail
     refine D1.out.mono ?_;rintro e w1 ⟨rfl,rfl⟩
     go_wp2_with fail
     refine D2.out.mono ?_;rintro e w1 ⟨rfl,rfl⟩
     go_wp2_with (at_builtin;(refine wpList_append_own _ rfl _ _ 50 rfl w.heap.size 3 i0 (.int .i64 0) 1 8 Tryz.underlying50 hi hz0 hz1 hz2 rfl (by decide) _ _ _ rfl (hO.out.alloc _) ⟨wr.heap.size,0,none⟩ 1 1 [.int .i64 (((x:Int)+(y:Int)+1)%1000000000)] rfl rfl (cell_one_new _ _ _) (fun x hx=>by simp at hx;subst hx;rfl) (by unfold maxLen;omega) (by omega) (by simp;omega) ?_;intro v' w1 hown' hgrow _))
     rw[Q2.out,←xX] at hown';have HO':=hid hown';have HB':=hid (Below.grown (hB.out.alloc hs (.cells #[.int .i64 (((x:Int)+(y:Int)+1)%1000000000)] 3)) hgrow (by simp;omega) (fun j hj=>by have:=(hO.out.lt _ hj).1;omega));clear hown' hgrow
     go_wp2
     go_roundg g
     case rel=>exact⟨k+1,s/B9,L++[s%B9],by go_num,by rw[Q1.out],by have:=Hk.out;omega,HS,HZ3,HO',HB'⟩
     case measure=>omega
  ·have hk1:p.length≤k:=by omega
   have hk2:q.length≤k:=by omega
   have hc0:c'=0:=by omega
   have HL:=hid (hI.out.last hk1 hk2 hc0);have HOL:=hid hI.out.2.1
   have h1I:¬(k:Int)<(p.length:Int):=by omega
   have h2I:¬(k:Int)<(q.length:Int):=by omega
   have HSL:=hid (zE hO.out (by omega));subst hc0;clear hk1 hk2 hI hZ hk hgo
   go_wp2
   go_ret;exact⟨_,_,rfl,HL.out,HOL.out,HSL.out,hB.out⟩
def x8 (p q:List Nat) (k b:Nat) (L:List Nat):Prop:=L.length=k∧jF L∧b≤1∧jb (p.take k)+B9^k*b=jb L+jb (q.take k)
theorem x8.start (p q:List Nat):x8 p q 0 0 []:=⟨rfl,JY,by omega,by simp[jb]⟩
theorem x8.step {p q:List Nat} {k b:Nat} {L:List Nat} (h:x8 p q k b L) {d b':Nat} (hd:d<B9) (hb:b'≤1) (he:p[k]?.getD 0+B9*b'=d+q[k]?.getD 0+b):x8 p q (k+1) b' (L++[d]):=by
 obtain⟨h1,h2,h3,h4⟩:=h;unfold x8;rw[QM,QM,zR,h1,Nat.pow_succ,Nat.mul_assoc];generalize p[k]?.getD 0=x at *;generalize q[k]?.getD 0=y at *
 have e2:B9^k*(x+B9*b')=B9^k*(d+y+b):=by rw[he]
 rw[Nat.mul_add,Nat.mul_add,Nat.mul_add] at e2;refine⟨by simp[h1],JX.2 ⟨h2,Jm.2 hd⟩,hb,?_⟩;generalize B9^k=P at *;generalize P*(B9*b')=Z1 at *;generalize P*d=Z2 at *;generalize P*x=Z3 at *;generalize P*y=Z4 at *;generalize P*b=Z5 at *;omega
theorem x8.last {p q:List Nat} {b:Nat} {L:List Nat} (h:x8 p q p.length b L) (hl:q.length≤p.length) (hle:jb q≤jb p):jb L=jb p-jb q:=by
 obtain⟨h1,h2,h3,h4⟩:=h;rw[List.take_of_length_le (Nat.le_refl _),List.take_of_length_le hl] at h4;have h5:=qB h2;rw[h1] at h5;rcases Nat.eq_zero_or_pos b with h0 | h0
 ·rw[h0,Nat.mul_zero] at h4;omega
 ·have:B9^p.length*1≤B9^p.length*b:=Nat.mul_le_mul_left _ h0
  omega
theorem Dy {p q:List Nat} (nq:kn q) (op:jF p) (hle:jb q≤jb p):q.length≤p.length:=by
 rcases Nat.lt_or_ge p.length q.length with h | h
 ·have:=QJ op nq h;omega
 ·exact h
theorem GZ (v u:Value) (x y:Nat) (w:World) (hv:Dg w v x) (hu:Dg w u y) (hle:y≤x) (hx:jP x):
  Calls Tryz.prog 186 #[v,u] w (QS (x-y) w):=by
 obtain⟨p,A,c,rfl,e1,o1,n1,l1,l2,s1⟩:=hv.open_;obtain⟨q,B,d,rfl,e2,o2,n2,m1,m2,s2⟩:=hu.open_;have hp6:=hx.len n1 e1;subst e1 e2;have HLE:=hid hle;have HQL:=hid (Dy n2 o1 hle);obtain⟨i0,hi,hz0,hz1,hz2⟩:=info_parts y9;have HV:=hid s1;have HU:=hid s2;have HOP:=hid o1;have HOQ:=hid o2;clear hv hu s1 s2 o1 o2 hle hx n1 n2;go_enter Tryz.func186,Tryz.ntmps186
 go_wp2_with fail
 go_loopg [5,6,7,8] p.length (fun g out br i _ wr=>∃(k b:Nat) (L:List Nat),i = .int .i64 (k:Int)∧br = .int .i64 (b:Int)∧k+g=p.length∧Hid (x8 p q k b L)∧Hid (wr.ownsRow w.heap.size 3 1 out k (jo L))∧Hid (Below w.heap.size w wr))
 case atStart=>exact⟨0,0,[],rfl,rfl,by omega,hid (x8.start p q),hid (World.ownsRow_nil _ _ _ _),hid (Below.refl _ _)⟩
 case round=>
  obtain⟨k,b,L,rfl,rfl,hk,hI,hO,hB⟩:=hrel
  cases gk with
  | zero=>
   have hkp:k=p.length:=by omega
   subst hkp;obtain⟨A7,k7,hvf,hv1,hv2⟩:=j7 hO.out;subst hvf;have HL:=hid (hI.out.last HQL.out HLE.out);have hLl:L.length=p.length:=hI.out.1;have TR:=hid (XI A7 k7 L wr (by have h:=zE hO.out (by omega);rw[←hLl] at h;exact h));rw[hLl] at TR;have HOL:=hid hI.out.2.1
   have hin:¬(p.length:Int)<(p.length:Int):=by omega
   clear hI hk hO hLl
   go_wp2_with fail
   refine TR.out.mono ?_;rintro e w2 ⟨rfl,hsl,rfl⟩;have HSL:=hid hsl;clear hsl TR
   go_wp2
   go_ret;exact⟨_,rfl,by rw[←HL.out];exact Dg.of_trim HOL.out HSL.out,hB.out⟩
  | succ g=>
   have hlt:k<p.length:=by omega
   have hltI:(k:Int)<(p.length:Int):=by omega
   have hkm:k≤1000000:=by omega
   have hs:=hB.out.size;obtain⟨b1,off1,rfl,hbb1,hcell1⟩:=HV.out.at_ (k:=k) (by rw[kg];omega);have hck1:=(hB.out.cell (p:=⟨b1,off1+k,none⟩) hbb1).trans ((hcell1 k (by rw[kg];omega)).trans (qf p k hlt));have D2:Hid (∀n,Calls Tryz.prog 231 #[.slice B q.length d,.int .i64 (k:Int)] (wr.drewN n) fun e w'=>e = .returned (.int .i64 ((q[k]?.getD 0:Nat):Int))∧w'=wr.drewN n):=hid (fun n=>(Yv _ q k _ (HU.out.below (below_drewN hB.out n))).mono fun _ _ h=>⟨h.1,h.2.symm⟩);have hx9:=kJ HOP.out k;have hy9:=kJ HOQ.out k;have HST:=hid (fun d b' h1 h2 h3=>hI.out.step (d:=d) (b':=b') h1 h2 h3);have hb1:b≤1:=hI.out.2.2.1;generalize p[k]?.getD 0=x at *;generalize q[k]?.getD 0=y at *
   have hxI:(x:Int)<1000000000:=by unfold B9 at hx9;omega
   have hyI:(y:Int)<1000000000:=by unfold B9 at hy9;omega
   have hbI:(b:Int)≤1:=by omega
   have W1:IntKind.i64.wrap ((x:Int)-(y:Int))=(x:Int)-(y:Int):=IntWalk.i64_in _ (by omega);have W2:IntKind.i64.wrap ((x:Int)-(y:Int)-(b:Int))=(x:Int)-(y:Int)-(b:Int):=IntWalk.i64_in _ (by omega);have Hk:=hid hk;clear hk hI hcell1;by_cases hneg:x<y+b
   ·have hnI:(x:Int)-(y:Int)-(b:Int)<0:=by omega
    obtain⟨dd,hdd,hd9⟩:∃dd:Nat,(x:Int)-(y:Int)-(b:Int)+1000000000=(dd:Int)∧dd<1000000000:=⟨x+1000000000-y-b,by omega,by omega⟩
    have HN:Hid (x8 p q (k+1) 1 (L++[dd])):=hid (HST.out dd 1 (by unfold B9;omega) (by omega) (by unfold B9;omega));have HD:=hid hdd;clear hneg hdd HST hx9 hy9
    go_wp2_with fail
    go_quiet ((go_at_call 231;exact Calls.quiet_of_same (D2.out _)))
    clear W1 W2
    go_wp2_with (at_builtin;(refine wpList_append_own _ rfl _ _ 50 rfl w.heap.size 3 i0 (.int .i64 0) 1 8 Tryz.underlying50 hi hz0 hz1 hz2 rfl (by decide) _ _ _ rfl ((Wn hO.out nq).alloc _) ⟨wr.heap.size,0,none⟩ 1 1 [.int .i64 ((x:Int)-(y:Int)-(b:Int)+1000000000)] rfl rfl (cell_one_new _ _ _) (fun x hx=>by simp at hx;subst hx;rfl) (by unfold maxLen;omega) (by omega) (by simp;omega) ?_;intro v' w1 hown' hgrow _))
    rw[HD.out,←xX] at hown';have HO':=hid hown';have HB':=hid (Below.grown ((below_drewN hB.out nq).alloc hs (.cells #[.int .i64 ((x:Int)-(y:Int)-(b:Int)+1000000000)] 3)) hgrow (by simp;omega) (fun j hj=>by have:=(hO.out.lt _ hj).1;omega));clear hown' hgrow
    go_wp2
    go_roundg g
    case rel=>exact⟨k+1,1,L++[dd],by go_num,rfl,by have:=Hk.out;omega,HN,HO',HB'⟩
    case measure=>omega
   ·have hnI:decide ((x:Int)-(y:Int)-(b:Int)<0)=false:=decide_eq_false (by omega)
    obtain⟨dd,hdd,hd9⟩:∃dd:Nat,(x:Int)-(y:Int)-(b:Int)=(dd:Int)∧dd<1000000000:=⟨x-y-b,by omega,by omega⟩
    have HN:Hid (x8 p q (k+1) 0 (L++[dd])):=hid (HST.out dd 0 (by unfold B9;omega) (by omega) (by unfold B9;omega));have HD:=hid hdd;clear hneg hdd HST hx9 hy9
    go_wp2_with fail
    go_quiet ((go_at_call 231;exact Calls.quiet_of_same (D2.out _)))
    clear W1 W2
    go_wp2_with (at_builtin;(refine wpList_append_own _ rfl _ _ 50 rfl w.heap.size 3 i0 (.int .i64 0) 1 8 Tryz.underlying50 hi hz0 hz1 hz2 rfl (by decide) _ _ _ rfl ((Wn hO.out nq).alloc _) ⟨wr.heap.size,0,none⟩ 1 1 [.int .i64 ((x:Int)-(y:Int)-(b:Int))] rfl rfl (cell_one_new _ _ _) (fun x hx=>by simp at hx;subst hx;rfl) (by unfold maxLen;omega) (by omega) (by simp;omega) ?_;intro v' w1 hown' hgrow _))
    rw[HD.out,←xX] at hown';have HO':=hid hown';have HB':=hid (Below.grown ((below_drewN hB.out nq).alloc hs (.cells #[.int .i64 ((x:Int)-(y:Int)-(b:Int))] 3)) hgrow (by simp;omega) (fun j hj=>by have:=(hO.out.lt _ hj).1;omega));clear hown' hgrow
    go_wp2
    go_roundg g
    case rel=>exact⟨k+1,0,L++[dd],by go_num,rfl,by have:=Hk.out;omega,HN,HO',HB'⟩
    case measure=>omega
end Go.Proofs.YtneafcdfnhnpnaaGreatDoor
namespace Go.Proofs.YtneafcdfnhnpnaaGreatDoor
open Go.RowKit
def xz (q:Rat):Value:= .string ⟨(jg q).toArray⟩
def qD (L:List Rat):List Value:=L.map xz
theorem Kd (L:List Rat):(qD L).length=L.length:=by simp[qD]
theorem BE (L:List Rat) (k:Nat) (h:k<L.length):(qD L)[k]? =some (xz (L[k]?.getD 0)):=by simp[qD,h]
theorem BG (L:List Rat) (k:Nat) (x:Rat):(qD L).set k (xz x)=qD (L.set k x):=by simp[qD,List.map_set]
def X0 (w:World) (v:Value) (M:List (List Rat)):Prop:=
 ∃vs:List Value,jB w v vs∧vs.length=M.length ∧ ∀(i:Nat) (r:List Rat),M[i]? =some r → ∃u,vs[i]? =some u∧jB w u (qD r)
structure kL (w:World) (g cg:Nat) (R:List jr) (n:Nat):Prop where
 own:Us w 85 g R.length cg (R.map (jZ n))
 row:∀r∈R,Us w 22 r.1 n r.2.1 (qD r.2.2)
 apart:(R.map (·.1)).Nodup
section
variable {w w':World} {g cg n:Nat} {R:List jr}
theorem kL.len (h:kL w g cg R n) {r:jr} (hr:r∈R):r.2.2.length=n:=by have:=(h.row r hr).1;rwa [Kd] at this
theorem kL.gne (h:kL w g cg R n) {r:jr} (hr:r∈R):g≠r.1:=h.own.apart (h.row r hr) (by decide)
theorem kL.keep (h:kL w g cg R n) (hk:∀k,k=g∨k∈R.map (·.1)→w'.heap[k]? =w.heap[k]?):kL w' g cg R n:=
 ⟨h.own.keep (hk g (.inl rfl)),fun r hr=>(h.row r hr).keep (hk r.1 (.inr (List.mem_map_of_mem hr))),h.apart⟩
theorem kL.lt (h:kL w g cg R n) {k:Nat} (hk:k=g∨k∈R.map (·.1)):k<w.heap.size:=by
 rcases hk with rfl | hk
 ·exact h.own.lt
 ·obtain⟨r,hr,rfl⟩:=List.mem_map.1 hk
  exact(h.row r hr).lt
theorem kL.below (h:kL w g cg R n) (hb:Below w.heap.size w w'):kL w' g cg R n:=h.keep fun _ hk=>hb.block _ (h.lt hk)
theorem kL.setRow (h:kL w g cg R n) {i:Nat} {r:jr} (hr:R[i]? =some r) {L:List Rat} (hO:Us w' 22 r.1 n r.2.1 (qD L)) (hb:jh r.1 w w'):kL w' g cg (setRow R i L) n:=by
 refine⟨?_,?_,?_⟩
 ·have e:(Go.Proofs.YtneafcdfnhnpnaaGreatDoor.setRow R i L).map (jZ n)=R.map (jZ n):=Zz i L (fun b c=>Value.slice (some ⟨b,0,none⟩) n c)
  rw[e,JE];exact h.own.keep (hb.block g h.own.lt (h.gne (List.mem_of_getElem? hr)))
 ·intro x hx
  obtain⟨k,hk⟩:=List.mem_iff_getElem?.1 hx;by_cases hik:i=k
  ·subst hik
   rw[qA hr] at hk;obtain rfl:=Option.some.inj hk;exact hO
  ·rw[xA hik] at hk
   have:=h.row x (List.mem_of_getElem? hk);exact this.keep (hb.block x.1 this.lt (Y9 h.apart hk hr (fun e=>hik e.symm)))
 ·rw[JD];exact h.apart
theorem kL.swap (h:kL w g cg R n) {i j:Nat} {a b:jr} (hi:R[i]? =some a) (hj:R[j]? =some b):kL ((w.setCell ⟨g,i,none⟩ (jZ n b)).setCell ⟨g,j,none⟩ (jZ n a)) g cg (j9 R i j) n:=by
 refine⟨?_,?_,?_⟩
 ·rw[Kk,Ko hi hj,List.map_set,List.map_set]
  exact(h.own.put _ _).put _ _
 ·intro x hx
  have hx:=Kl hx;exact((h.row x hx).other (p:=⟨g,i,none⟩) (fun e=>h.gne hx e.symm) _).other (p:=⟨g,j,none⟩) (fun e=>h.gne hx e.symm) _
 ·exact((Km R i j).map _).nodup_iff.2 h.apart
theorem kL.cellRow (h:kL w g cg R n) {i:Nat} {r:jr} (hr:R[i]? =some r):w.cell? ⟨g,i,none⟩=some (jZ n r):=by
 have hi:i<R.length:=(List.getElem?_eq_some_iff.1 hr).1;rw[h.own.cell hi,List.getElem?_map,hr];rfl
theorem kL.cellNum (h:kL w g cg R n) {i j:Nat} {r:jr} (hr:R[i]? =some r) (hj:j<n):w.cell? ⟨r.1,j,none⟩=some (xz (r.2.2[j]?.getD 0)):=by
 have hm:=List.mem_of_getElem? hr;exact((h.row r hm).cell hj).trans (BE _ _ (by rw[h.len hm];exact hj))
theorem kL.setNum (h:kL w g cg R n) {i j:Nat} {r:jr} (hr:R[i]? =some r) (x:Rat):kL (w.setCell ⟨r.1,j,none⟩ (xz x)) g cg (Go.Proofs.YtneafcdfnhnpnaaGreatDoor.setRow R i (r.2.2.set j x)) n:=by
 have hm:=List.mem_of_getElem? hr;exact h.setRow hr (by rw[←BG];exact(h.row r hm).put _ _) ((jh.refl r.1 w).setCell ⟨r.1,j,none⟩ rfl _)
end
structure qV (w:World) (base n:Nat) (v:Value) (vs:List Value) (Ls:List (List Rat)):Prop where
 own:w.ownsRow base 85 1 v Ls.length vs
 row:∀(i:Nat) (L:List Rat),Ls[i]? =some L → ∃u,vs[i]? =some u∧w.ownsRow base 22 1 u n (qD L)
 apart:∀(i j:Nat) (a b:Value),i<j→vs[i]? =some a→vs[j]? =some b → ∀k,a.ownBlock=some k→b.ownBlock≠some k
section
variable {w w':World} {base n:Nat} {v:Value} {vs:List Value} {Ls:List (List Rat)}
theorem qV.nil (w:World) (base n:Nat):qV w base n jm [] []:=⟨World.ownsRow_nil _ _ _ _,fun i L h=>by simp at h,fun i j a b _ h=>by simp at h⟩
theorem qV.below (h:qV w base n v vs Ls) (hb:Below w.heap.size w w'):qV w' base n v vs Ls:=
 ⟨kB h.own hb,fun i L hL=>by obtain⟨u,hu,ho⟩:=h.row i L hL;exact⟨u,hu,kB ho hb⟩,h.apart⟩
theorem qV.vlen (h:qV w base n v vs Ls):vs.length=Ls.length:=by have:=h.own.1;omega
theorem qV.snoc (h:qV w base n v vs Ls) {w0:World} {v' u:Value} {L:List Rat} (hg:w.grownBy w' v.ownBlock) (hown:w'.ownsRow base 85 1 v' (Ls.length+1) (vs++[u]))
  (hu:w.ownsRow w0.heap.size 22 1 u n (qD L)) (h0:qV w0 base n v vs Ls) (hb:base≤w0.heap.size):qV w' base n v' (vs++[u]) (Ls++[L]):=by
 have hne:∀x xs B,w.ownsRow B 22 1 x n xs→v.ownBlock=none∨v.ownBlock≠x.ownBlock:=by
  intro x xs B hx
  cases hv:v.ownBlock with
  | none=>exact .inl rfl
  | some k=>exact .inr (fun e=>Yl (zd h.own (Nat.zero_le _)) (zd hx (Nat.zero_le _)) (by decide) k hv e.symm)
 have hk:∀x xs B,w.ownsRow B 22 1 x n xs→w'.ownsRow B 22 1 x n xs:=by
  intro x xs B hx
  refine xa hx fun k hk hv=>hg.block k hk (fun e=> ?_)
  rcases hne x xs B hx with h1 | h1
  ·rw[h1] at e;cases e
  ·exact h1 (e.symm.trans hv.symm)
 have hvl:=h.vlen;refine⟨by rw[List.length_append];exact hown,fun i K hK=> ?_,fun i j a b hij ha hb' k hka=> ?_⟩
 ·rcases Nat.lt_or_ge i Ls.length with hi | hi
  ·rw[List.getElem?_append_left hi] at hK
   obtain⟨x,hx,ho⟩:=h.row i K hK;exact⟨x,by rw[List.getElem?_append_left (by omega)];exact hx,hk _ _ _ ho⟩
  ·rw[List.getElem?_append_right hi] at hK
   have hi0:i-Ls.length=0:=by
    rcases Nat.eq_zero_or_pos (i-Ls.length) with h1 | h1
    ·exact h1
    ·rw[List.getElem?_eq_none (by simp;omega)] at hK;cases hK
   rw[hi0] at hK
   obtain rfl:L=K:=by simpa using hK
   exact⟨u,by rw[List.getElem?_append_right (by omega),show i-vs.length=0 by omega];rfl,hk _ _ _ (zd hu hb)⟩
 ·rcases Nat.lt_or_ge j vs.length with hj | hj
  ·rw[List.getElem?_append_left (by omega)] at ha
   rw[List.getElem?_append_left hj] at hb';exact h.apart i j a b hij ha hb' k hka
  ·rw[List.getElem?_append_right hj] at hb'
   have hj0:j-vs.length=0:=by
    rcases Nat.eq_zero_or_pos (j-vs.length) with h1 | h1
    ·exact h1
    ·rw[List.getElem?_eq_none (by simp;omega)] at hb';cases hb'
   rw[hj0] at hb'
   obtain rfl:u=b:=by simpa using hb'
   have hi:i<vs.length:=by omega
   rw[List.getElem?_append_left hi] at ha;obtain⟨x,hx,ho⟩:=h0.row i _ (List.getElem?_eq_getElem (by omega));rw[ha] at hx;obtain rfl:=Option.some.inj hx;have l1:=(ho.lt k hka).2;intro e;have l2:=(hu.lt k e).1;omega
theorem qV.mx (h:qV w base n v vs Ls) (hn:0<n) (hm:0<Ls.length):∃(g cg:Nat) (R:List jr),v = .slice (some ⟨g,0,none⟩) Ls.length cg∧R.map (·.2.2)=Ls∧base≤g∧(∀k∈R.map (·.1),base≤k)∧kL w g cg R n:=by
 obtain⟨g,cg,rfl,hbg,hU⟩:=Us.of_owns h.own hm;have hvl:=h.vlen
 have hrow:∀i:Fin Ls.length,∃r:jr,r.2.2=Ls[i]∧vs[i.1]? =some (jZ n r)∧base≤r.1∧Us w 22 r.1 n r.2.1 (qD r.2.2):=by
  intro i;obtain⟨u,hu,ho⟩:=h.row i.1 _ (List.getElem?_eq_getElem i.2);obtain⟨b,c,rfl,hb,hU⟩:=Us.of_owns ho hn;exact⟨(b,c,Ls[i]),rfl,hu,hb,hU⟩
 let f:Fin Ls.length→jr:=fun i=>Classical.choose (hrow i)
 have hf:∀i,(f i).2.2=Ls[i]∧vs[i.1]? =some (jZ n (f i))∧base≤(f i).1∧Us w 22 (f i).1 n (f i).2.1 (qD (f i).2.2):=fun i=>Classical.choose_spec (hrow i)
 have hmem:∀r∈List.ofFn f,∃i,f i=r:=fun r hr=>List.mem_ofFn.1 hr
 have e1:(List.ofFn f).map (·.2.2)=Ls:=by
  apply List.ext_getElem
  ·simp
  ·intro i h1 h2
   simp only[List.getElem_map,List.getElem_ofFn];exact(hf ⟨i,h2⟩).1
 have e2:(List.ofFn f).map (jZ n)=vs:=by
  apply List.ext_getElem
  ·simp;omega
  ·intro i h1 h2
   simp only[List.getElem_map,List.getElem_ofFn];have:=(hf ⟨i,by omega⟩).2.1;rw[List.getElem?_eq_getElem h2] at this;exact(Option.some.inj this).symm
 refine⟨g,cg,List.ofFn f,rfl,e1,hbg,fun k hk=> ?_,?_,fun r hr=> ?_,?_⟩
 ·obtain⟨r,hr,rfl⟩:=List.mem_map.1 hk
  obtain⟨i,rfl⟩:=hmem r hr;exact(hf i).2.2.1
 ·rw[e2,List.length_ofFn];exact hU
 ·obtain⟨i,rfl⟩:=hmem r hr
  exact(hf i).2.2.2
 ·rw[List.Nodup,List.pairwise_iff_getElem]
  intro i j hi hj hij e;simp only[List.length_map,List.length_ofFn] at hi hj;simp only[List.getElem_map,List.getElem_ofFn] at e;exact h.apart i j _ _ hij (hf ⟨i,hi⟩).2.1 (hf ⟨j,hj⟩).2.1 (f ⟨i,hi⟩).1 rfl (by show some (f ⟨j,hj⟩).1=_;rw[e])
end
end Go.Proofs.YtneafcdfnhnpnaaGreatDoor
namespace Go.Proofs.YtneafcdfnhnpnaaGreatDoor
open Go.RowKit Go.Lib
theorem Dc:(Tryz.prog.info? 85).map (fun i=>(i.zero,i.size,i.bytes))=some (some (.slice none 0 0),1,24):=by kernel_rfl
theorem BF (L:List Rat):∀u∈qD L,u.oneCell'=true:=by
 intro u hu;obtain⟨x,_,rfl⟩:=List.mem_map.1 hu;rfl
theorem NN (w:World) (row:Option Nat):w.grownBy w row:=⟨rfl,rfl,rfl,Nat.le_refl _,fun _ _ _=>rfl⟩
theorem ES {ops:Array Oper} {rest:List Oper} {o:Oper} {a:Act} {Q:Exit→Act→World→Prop} {w:World} (hgd:o.guard=none) (s x:Operand)
  (ho:o.op = .call { callee:= .builtin .append,args:= #[s,x],argTypes:= #[85,85] })
  (g base:Nat) (hs:a.eval s = .slice (some ⟨g,0,none⟩) 0 0) (hown:w.ownsRow base 22 1 (.slice (some ⟨g,0,none⟩) 0 0) 0 []) (u:Value) (r:List Rat) (hx:a.eval x=u) (hu:jB w u (qD r)) (hl:r.length≤1000) (hbase:base≤w.heap.size)
  (h:∀v' w',w'.ownsRow base 22 1 v' r.length (qD r)→w.grownBy w' (some g)→wpList Tryz.prog ops Q rest (a.put o.dst v') w'):wpList Tryz.prog ops Q (o::rest) a w:=by
 obtain⟨i0,hi,hz0,hz1,hz2⟩:=info_parts Vy;obtain⟨A,c,rfl,h1,h2,h3⟩:=hu;rw[Kd] at *;rcases Nat.eq_zero_or_pos r.length with hr | hr
 ·have hr':r=[]:=List.length_eq_zero_iff.1 hr
  subst hr'
  refine wpList_plain hgd fun K hK=> ?_
  have hsrc:Src Tryz.prog i0.size 85 (.slice A 0 c) 0 [] w:=by
   cases A with
   | none=>exact Src.ofNil w Tryz.underlying85 c
   | some ad=>exact Src.ofSlice w Tryz.underlying85 ad 0 c [] (by simp) (fun j u h=>by simp at h) (fun u h=>by cases h)
  have hrun:=run_append_nothing w 85 85 o.type 22 i0 Tryz.underlying85 hi (some ⟨g,0,none⟩) 0 0 (Nat.le_refl _) _ hsrc;have hx':a.eval x = .slice A 0 c:=hx;unfold Oper.wp;simp[execOp,ho,resolve,invoke,builtin,hs,hx',hrun,Result.andThen];exact hK _ _ (h _ _ hown (NN _ _))
 ·obtain⟨b,off,rfl,hb,hc⟩:=h3 hr
  refine wpList_append_own w hgd s x 85 ho base 22 i0 (.string ⟨#[]⟩) 1 16 Tryz.underlying85 hi hz0 hz1 hz2 rfl (by decide) _ 0 [] hs hown ⟨b,off,none⟩ r.length c (qD r) hx (by rw[Kd,Nat.mul_one]) (fun j u hj=> ?_) (BF r) (by unfold maxLen;omega) (by omega) hbase (fun v' w' h4 h5 _=> ?_)
  ·have hj':=(List.getElem?_eq_some_iff.1 hj).1
   rw[Kd] at hj';have e:(Addr.add ⟨b,off,none⟩ j)=⟨b,off+j,none⟩:=Addr.add_lit ..;rw[e];exact(hc j hj').trans hj
  ·rw[Nat.zero_add,List.nil_append] at h4
   exact h v' w' h4 h5
theorem CA (v:Value) (M:List (List Rat)) (n:Nat) (w:World) (hv:X0 w v M) (hm:M.length≤256) (hn:n≤256) (hr:∀r∈M,r.length=n):
  Calls Tryz.prog 161 #[v] w fun e w'=>∃u us,e = .returned u∧qV w' w.heap.size n u us M∧Below w.heap.size w w':=by
 obtain⟨vs,hvs,hvl,hvr⟩:=hv;obtain⟨A,c,rfl,hc1,hc2⟩:=hvs.form;rw[hvl] at hvs hc1;rw[hvl];have HVR:=hid hvr;have HR:=hid hr;have HVS:=hid hvs;obtain⟨s0,hs0,hsz0,hsz1,hsz2⟩:=info_parts Dc;clear hvr hr hvs;go_enter Tryz.func161,Tryz.ntmps161
 go_wp2_with fail
 go_loopg [3,4] M.length (fun gh rv i wr=>∃(k:Nat) (us:List Value),i = .int .i64 k∧k+gh=M.length∧Hid (qV wr w.heap.size n rv us (M.take k))∧Hid (Below w.heap.size w wr))
 case atStart=>exact⟨0,[],rfl,by omega,hid (by rw[List.take_zero];exact qV.nil _ _ _),hid (Below.refl _ _)⟩
 case round=>
  obtain⟨k,us,rfl,hk,hT,hW⟩:=hrel
  cases gk with
  | zero=>
   have hin:¬((k:Int)<(M.length:Int)):=by omega
   have HT:Hid (∃us,qV wr w.heap.size n u3 us M):=hid ⟨us,by have:=hT.out;rw[List.take_of_length_le (by omega)] at this;exact this⟩;clear hT hk
   go_wp2
   go_ret;obtain⟨us,h⟩:=HT.out;exact⟨_,rfl,⟨us,h⟩,hW.out⟩
  | succ gh=>
   have hkM:k<M.length:=by omega
   have hin:((k:Int)<(M.length:Int)):=by omega
   have Hk:=hid hk;obtain⟨ru,hru,hsl⟩:=HVR.out k _ (List.getElem?_eq_getElem hkM);have hrl:=HR.out _ (List.getElem_mem hkM);have Htk:Hid (M.take (k+1)=M.take k++[M[k]]):=hid (by rw[List.take_add_one,List.getElem?_eq_getElem hkM];rfl);have HTl:Hid ((M.take k).length=k):=hid (by rw[List.length_take];omega);generalize M[k]=r at *;obtain⟨b,off,rfl,hb,hcell⟩:=HVS.out.at_ (k:=k) (by rw[hvl];exact hkM);have hck:=(hW.out.cell (p:=⟨b,off+k,none⟩) hb).trans ((hcell k (by rw[hvl];exact hkM)).trans hru);have hbl:=Nat.lt_of_lt_of_le hb hW.out.size;have hsl2:=hsl.below hW.out;have hvl2:=hT.out.vlen;rw[HTl.out] at hvl2;obtain⟨Ar,cr,rfl,hr1,hr2⟩:=hsl2.form;rw[Kd,hrl] at hr1 hr2 hsl2;have hws:=hW.out.size;have HU:=hid hsl2;have Hrl:=hid hrl;have HRU:=hid hru;rw[Kd,hrl] at hck;clear hk hcell hsl hru hrl hsl2 hb
   go_wp2_with (at_builtin;(first
    | (refine ES rfl _ _ rfl wr.heap.size wr.heap.size rfl (World.ownsRow_lit (e:=22) (size:=1) (base:=wr.heap.size) wr #[] 0 (Nat.le_refl _) (by unfold maxLen;omega) rfl) _ r rfl (HU.out.below ((Below.refl _ _).alloc (Nat.le_refl _) _)) (by rw[Hrl.out];omega) (by simp) ?_;intro v2 w2 hown2 hgrow2;rw[Hrl.out] at hown2;obtain⟨A2,c2,rfl,hc21,hc22⟩:=j7 hown2;have HB2:Hid (Below wr.heap.size wr w2):=hid (Below.grown ((Below.refl _ wr).alloc (Nat.le_refl _) _) hgrow2 (by simp) (fun j hj=>by injection hj with hj;omega));have HT3:=hid ((hT.out.below HB2.out).below ((Below.refl _ w2).alloc (Nat.le_refl _) (.cells #[.slice A2 n c2] 85)));have hsz2':=HB2.out.size;have HO3:=hid HT3.out.own;rw[HTl.out] at HO3)
    | (refine wpList_append_own _ rfl _ _ 74 rfl w.heap.size 85 s0 (.slice none 0 0) 1 24 Tryz.underlying74 hs0 hsz0 hsz1 hsz2 rfl (by decide) _ _ _ rfl HO3.out ⟨w2.heap.size,0,none⟩ 1 1 [.slice A2 n c2] rfl rfl (cell_one_new _ _ _) (fun x hx=>by simp at hx;subst hx;rfl) (by unfold maxLen;omega) (by omega) (by simp;omega) ?_;intro v4 w4 hown4 hgrow4 _)))
   have HT4:=hid (HT3.out.snoc hgrow4 (by rw[HTl.out];exact hown4) (kB hown2 ((Below.refl _ w2).alloc (Nat.le_refl _) _)) hT.out hws)
   have HB4:Hid (Below w.heap.size w w4):=hid (by
    have h1:=hW.out.trans (HB2.out.mono hws)
    exact Below.grown (h1.alloc h1.size _) hgrow4 (by simp;omega) (fun j hj=>(HO3.out.lt _ hj).1))
   clear hown2 hgrow2 hown4 hgrow4 HT3 HO3 hT hck
   go_wp2
   go_roundg gh
   case rel=>exact⟨k+1,us++[.slice A2 n c2],by go_num,by have:=Hk.out;omega,hid (by rw[Htk.out];exact HT4.out),HB4⟩
   case measure=>omega
theorem Mh (b:Bool) (e:Int) (w:World):
  Calls Tryz.prog 41 #[.bool b,.int .i64 e] w fun r w'=>r = .returned (.int .i64 (if b=true then e else 0))∧w=w':=by
 cases b
 ·go_enter Tryz.func41,Tryz.ntmps41
  go_wp2
  go_ret;exact⟨rfl,rfl⟩
 ·go_enter Tryz.func41,Tryz.ntmps41
  go_wp2
  go_ret;exact⟨rfl,rfl⟩
theorem TF {p q:List jn} {k:Nat} (hk:k<p.length) (hl:p.length=q.length) (h:(decide (p.drop k=q.drop k))=decide (p=q)) (he:p[k]?.getD []=q[k]?.getD []):decide (p.drop (k+1)=q.drop (k+1))=decide (p=q):=by
 have hq:k<q.length:=by omega
 refine YB hk hl h ?_;rw[List.getElem?_eq_getElem hk,List.getElem?_eq_getElem hq] at he ⊢;simp only[Option.getD_some] at he;rw[he]
theorem TE {p q:List jn} {k:Nat} (he:p[k]?.getD []≠q[k]?.getD []):decide (p=q)=false:=
 YA (k:=k) (fun h=>he (by rw[h]))
theorem Gc (v u:Value) (p q:List jn) (w:World) (hv:jB w v (jO p)) (hu:jB w u (jO q)):
  Calls Tryz.prog 101 #[v,u] w fun e w'=>e = .returned (.bool (decide (p=q)))∧Below w.heap.size w w':=by
 obtain⟨A,c,rfl,hc1,hc2⟩:=hv.form;obtain⟨B,d,rfl,gc1,gc2⟩:=hu.form;simp only[qg] at hc1 hc2 hv gc1 gc2 hu ⊢
 obtain⟨r,hr⟩:∃r,decide (p=q)=r:=⟨_,rfl⟩
 have HR:=hid hr;rw[hr];by_cases hl:p.length=q.length
 ·have hb:((p.length:Int) != (q.length:Int))=false:=by rw[hl];simp
  have HL:=hid hl;clear hr hl;go_enter Tryz.func101,Tryz.ntmps101
  go_wp2_with fail
  go_loopg [5] p.length (fun g i wr=>∃(k:Nat),k+g=p.length∧i = .int .i64 k∧Hid (decide (p.drop k=q.drop k)=decide (p=q))∧Below w.heap.size w wr)
  case atStart=>exact⟨0,by omega,rfl,hid rfl,Below.refl _ _⟩
  case round=>
   obtain⟨k,hk,rfl,hD,hB⟩:=hrel
   cases gk with
   | zero=>
    have hin:¬((k:Int)<(p.length:Int)):=by omega
    have HT:Hid (r=true):=hid (by
     rw[←HR.out,←hD.out,List.drop_eq_nil_of_le (by omega),List.drop_eq_nil_of_le (by have:=HL.out;omega)];rfl)
    clear hk
    go_wp2
    go_ret;exact⟨by rw[HT.out];rfl,hB⟩
   | succ g=>
    have hlt:k<p.length:=by omega
    have hlq:k<q.length:=by have:=HL.out;omega
    obtain⟨b1,off1,rfl,hbb1,hcell1⟩:=hv.at_ (k:=k) (by rw[qg];omega);obtain⟨b2,off2,rfl,hbb2,hcell2⟩:=hu.at_ (k:=k) (by rw[qg];omega);have hck1:=(hB.cell (p:=⟨b1,off1+k,none⟩) hbb1).trans ((hcell1 k (by rw[qg];omega)).trans (JC p k hlt));have hck2:=(hB.cell (p:=⟨b2,off2+k,none⟩) hbb2).trans ((hcell2 k (by rw[qg];omega)).trans (JC q k hlq));have Hstep:=hid (fun he=>TF hlt HL.out hD.out he);have Hdiff:=hid (fun he=>TE (p:=p) (q:=q) (k:=k) he);have Hk:=hid hk;clear hcell1 hcell2 hv hu hk;generalize p[k]?.getD []=x at *;generalize q[k]?.getD []=y at *;unfold sv at hck1 hck2;by_cases he:x=y
    ·have Hs:=hid (Hstep.out he)
     have hxy:(x==y)=true:=by simpa using he
     clear he
     go_wp2
     go_quiet (fail)
     have hB':=below_drewN hB nq
     go_wp2
     go_roundg g
     case rel=>exact⟨k+1,by have:=Hk.out;omega,by go_num,Hs,hB'⟩
     case measure=>omega
    ·have Hs:=hid (Hdiff.out he)
     have hxy:(x==y)=false:=by simpa using he
     clear he;have HF:Hid (r=false):=hid (by rw[←HR.out];exact Hs.out)
     go_wp2
     go_quiet (fail)
     have hB':=below_drewN hB nq
     go_wp2
     go_ret;exact⟨by rw[HF.out];rfl,hB'⟩
 ·have hb:((p.length:Int) != (q.length:Int))=true:=by simpa using (by omega:¬(p.length:Int)=q.length)
  have hne:p≠q:=by intro h;subst h;exact hl rfl
  have HF:Hid (r=false):=hid (by rw[←hr];simpa using hne);clear hr hne hl;go_enter Tryz.func101,Tryz.ntmps101
  go_wp2
  go_ret;exact⟨by rw[HF.out];rfl,Below.refl _ _⟩
theorem CO (v u:Value) (P Q:List (List jn)) (w:World) (hv:kd w v P) (hu:kd w u Q):
  Calls Tryz.prog 99 #[v,u] w fun e w'=>e = .returned (.bool (decide (P=Q)))∧Below w.heap.size w w':=by
 obtain⟨vs,hvs,hvl,hvr⟩:=hv;obtain⟨us,hus,hul,hur⟩:=hu;obtain⟨A,c,rfl,hc1,hc2⟩:=hvs.form;obtain⟨B,d,rfl,gc1,gc2⟩:=hus.form;rw[hvl] at hvs hc1 hc2;rw[hul] at hus gc1 gc2
 obtain⟨r,hr⟩:∃r,decide (P=Q)=r:=⟨_,rfl⟩
 have HR:=hid hr;rw[hr,hvl,hul];by_cases hl:P.length=Q.length
 ·have hb:((P.length:Int) != (Q.length:Int))=false:=by rw[hl];simp
  have HL:=hid hl;have HVR:=hid hvr;have HUR:=hid hur;clear hr hl hvr hur;go_enter Tryz.func99,Tryz.ntmps99
  go_wp2_with fail
  go_loopg [5] P.length (fun g i wr=>∃(k:Nat),k+g=P.length∧i = .int .i64 k∧Hid (decide (P.drop k=Q.drop k)=decide (P=Q))∧Below w.heap.size w wr)
  case atStart=>exact⟨0,by omega,rfl,hid rfl,Below.refl _ _⟩
  case round=>
   obtain⟨k,hk,rfl,hD,hB⟩:=hrel
   cases gk with
   | zero=>
    have hin:¬((k:Int)<(P.length:Int)):=by omega
    have HT:Hid (r=true):=hid (by
     rw[←HR.out,←hD.out,List.drop_eq_nil_of_le (by omega),List.drop_eq_nil_of_le (by have:=HL.out;omega)];rfl)
    clear hk
    go_wp2
    go_ret;exact⟨by rw[HT.out];rfl,hB⟩
   | succ g=>
    have hlt:k<P.length:=by omega
    have hlq:k<Q.length:=by have:=HL.out;omega
    obtain⟨v1,hv1,hs1⟩:=HVR.out k _ (List.getElem?_eq_getElem hlt);obtain⟨u1,hu1,ht1⟩:=HUR.out k _ (List.getElem?_eq_getElem hlq);obtain⟨b1,off1,rfl,hbb1,hcell1⟩:=hvs.at_ (k:=k) (by rw[hvl];omega);obtain⟨b2,off2,rfl,hbb2,hcell2⟩:=hus.at_ (k:=k) (by rw[hul];omega);have hck1:=(hB.cell (p:=⟨b1,off1+k,none⟩) hbb1).trans ((hcell1 k (by rw[hvl];omega)).trans hv1);have hck2:=(hB.cell (p:=⟨b2,off2+k,none⟩) hbb2).trans ((hcell2 k (by rw[hul];omega)).trans hu1);have Hstep:=hid (fun he=>YB hlt HL.out hD.out he);have Hdiff:=hid (fun he=>YA (p:=P) (q:=Q) (k:=k) he);rw[List.getElem?_eq_getElem hlt,List.getElem?_eq_getElem hlq] at Hstep Hdiff;have Hk:=hid hk;have hbl1:=Nat.lt_of_lt_of_le hbb1 hB.size;have hbl2:=Nat.lt_of_lt_of_le hbb2 hB.size;have SI:=hid (fun (W:World) (hb:Below wr.heap.size wr W)=>Gc v1 u1 P[k] Q[k] W ((hs1.below hB).below hb) ((ht1.below hB).below hb))
    have KS:Hid (∀z,Below wr.heap.size wr z→z.cell? ⟨b1,off1+k,none⟩=some v1∧z.cell? ⟨b2,off2+k,none⟩=some u1∧Below wr.heap.size wr z):=hid (fun z hb=>
     ⟨(hb.cell (p:=⟨b1,off1+k,none⟩) hbl1).trans hck1,(hb.cell (p:=⟨b2,off2+k,none⟩) hbl2).trans hck2,hb⟩)
    have KT:=hid (fun (x x':World) (hb:Below x.heap.size x x') (h5:Below wr.heap.size wr x)=>KS.out x' (h5.trans (hb.mono h5.size)));have HB:=hid hB;clear hcell1 hcell2 hvs hus hk hs1 ht1 hv1 hu1 hB hD;generalize P[k]=x at *;generalize Q[k]=y at *
    obtain⟨bb,hbb⟩:∃bb,decide (x=y)=bb:=⟨_,rfl⟩
    rw[hbb] at SI
    cases bb with
    | true=>
     have Hs:=hid (Hstep.out (by rw[of_decide_eq_true hbb]));clear hbb Hstep Hdiff
     go_wp2
     go_region_held3 (fun z=>z.cell? ⟨b1,off1+k,none⟩=some v1∧z.cell? ⟨b2,off2+k,none⟩=some u1∧Below wr.heap.size wr z)
      (first | exact KS.out _ (Below.refl _ _).drew | exact KT.out _ _ (by assumption) (by assumption))
      (first | (go_at_call 101;go_split_ands;refine(SI.out _ (by assumption)).mono ?_;rintro e4 w4 ⟨rfl,hB4⟩))
     have hB':Below w.heap.size w w4:=by go_split_ands;exact HB.out.trans (by rename_i h;exact h.mono HB.out.size)
     go_wp2
     go_roundg g
     case rel=>exact⟨k+1,by have:=Hk.out;omega,by go_num,Hs,hB'⟩
     case measure=>omega
    | false=>
     have Hs:=hid (Hdiff.out (fun h=>of_decide_eq_false hbb (Option.some.inj h)));clear hbb Hstep Hdiff;have HF:Hid (r=false):=hid (by rw[←HR.out];exact Hs.out)
     go_wp2
     go_region_held3 (fun z=>z.cell? ⟨b1,off1+k,none⟩=some v1∧z.cell? ⟨b2,off2+k,none⟩=some u1∧Below wr.heap.size wr z)
      (first | exact KS.out _ (Below.refl _ _).drew | exact KT.out _ _ (by assumption) (by assumption))
      (first | (go_at_call 101;go_split_ands;refine(SI.out _ (by assumption)).mono ?_;rintro e4 w4 ⟨rfl,hB4⟩))
     have hB':Below w.heap.size w w4:=by go_split_ands;exact HB.out.trans (by rename_i h;exact h.mono HB.out.size)
     go_wp2
     go_ret;exact⟨by rw[HF.out];rfl,hB'⟩
 ·have hb:((P.length:Int) != (Q.length:Int))=true:=by simpa using (by omega:¬(P.length:Int)=Q.length)
  have hne:P≠Q:=by intro h;subst h;exact hl rfl
  have HF:Hid (r=false):=hid (by rw[←hr];simpa using hne);clear hr hne hl;go_enter Tryz.func99,Tryz.ntmps99
  go_wp2
  go_ret;exact⟨by rw[HF.out];rfl,Below.refl _ _⟩
