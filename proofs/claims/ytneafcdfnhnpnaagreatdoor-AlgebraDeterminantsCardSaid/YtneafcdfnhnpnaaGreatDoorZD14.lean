/- Contracts: the sum and the difference of two rational numbers. -/
import Derived.Test.YtneafcdfnhnpnaaGreatDoorZD13
import Derived.Test.YtneafcdfnhnpnaaGreatDoorZD07
set_option maxRecDepth 100000
set_option maxHeartbeats 4000000
namespace Go.Proofs.YtneafcdfnhnpnaaGreatDoor
open Go.RowKit Go.Lib
def kv (p:Rat):Prop:=jl p.num.natAbs∧jl p.den
def xO (p q:Rat):Prop:=kv p∧kv q∧jl (p.num.natAbs*q.den+q.num.natAbs*p.den)
theorem ZA (p:Rat):sg (decide (p.num<0)) p.num.natAbs=p.num:=by
 unfold sg;by_cases h:p.num<0
 ·rw[decide_eq_true h,if_pos rfl];omega
 ·rw[decide_eq_false h,if_neg (by simp)];omega
theorem Br (p q:Rat) (g:Nat) (hg:Nat.gcd p.den q.den=g) (r:Bool×Nat) (hr:xY (decide (p.num<0)) (p.num.natAbs*(q.den/g)) (decide (q.num<0)) (q.num.natAbs*(p.den/g))=r):
  decide ((p+q).num<0)=r.1∧(p+q).num.natAbs=r.2/Nat.gcd r.2 g∧(p+q).den=p.den/g*(q.den/Nat.gcd r.2 g):=by
 obtain⟨h1,h2⟩:=EK p q;rw[hg] at h1 h2
 have hgp:0<g:=by rw[←hg];exact Nat.gcd_pos_of_pos_left _ p.den_pos
 have hA:0<q.den/g:=Nat.div_pos (by rw[←hg];exact Nat.gcd_le_right _ q.den_pos) hgp;have hB:0<p.den/g:=Nat.div_pos (by rw[←hg];exact Nat.gcd_le_left _ p.den_pos) hgp
 have e1:p.num*((q.den/g:Nat):Int)=sg (decide (p.num<0)) (p.num.natAbs*(q.den/g)):=by rw[Xy,ZA]
 have e2:q.num*((p.den/g:Nat):Int)=sg (decide (q.num<0)) (q.num.natAbs*(p.den/g)):=by rw[Xy,ZA]
 rw[e1,e2] at h1 h2
 have hn:=F2 (decide (p.num<0)) (decide (q.num<0)) (p.num.natAbs*(q.den/g)) (q.num.natAbs*(p.den/g)) (fun h=>by
  have:=of_decide_eq_true h
  exact Nat.mul_ne_zero (by omega) (by omega)) (fun h=>by
  have:=of_decide_eq_true h
  exact Nat.mul_ne_zero (by omega) (by omega))
 have ha:=G5 (decide (p.num<0)) (decide (q.num<0)) (p.num.natAbs*(q.den/g)) (q.num.natAbs*(p.den/g));rw[hr] at hn ha;generalize sg (decide (p.num<0)) (p.num.natAbs*(q.den/g))+sg (decide (q.num<0)) (q.num.natAbs*(p.den/g))=T at *;rw[←ha] at h1 h2;have hc:0<Nat.gcd r.2 g:=Nat.gcd_pos_of_pos_right _ hgp
 have hd:((Nat.gcd r.2 g:Nat):Int)∣T:=by
  have:Nat.gcd r.2 g∣T.natAbs:=by rw[←ha];exact Nat.gcd_dvd_left _ _
  exact Int.ofNat_dvd_left.mpr this
 generalize Nat.gcd r.2 g=c at *;obtain⟨z,hz⟩:=hd
 have hzz:T/(c:Int)=z:=by rw[hz];exact Int.mul_ediv_cancel_left _ (by omega)
 rw[hzz] at h1;refine⟨?_,?_,h2⟩
 ·rw[h1,hn]
  apply decide_eq_decide.mpr;constructor
  ·intro h;rw[hz];exact Int.mul_neg_of_pos_of_neg (by omega) h
  ·intro h
   by_cases h3:z<0
   ·exact h3
   ·have:0≤(c:Int)*z:=Int.mul_nonneg (by omega) (by omega)
    omega
 ·rw[h1]
  have:r.2=c*z.natAbs:=by rw[ha,hz,Int.natAbs_mul];simp
  conv=>rhs;lhs;rw[this]
  rw[Nat.mul_div_cancel_left _ hc]
theorem xt {a b:World} (h:Below a.drew.heap.size a.drew b):Below a.heap.size a b:=⟨h.os,h.tape,h.output,h.size,h.block⟩
theorem qy {x x':World} {R:Nat} {t:TypeId} {cs:List Value} (hb:Below x.heap.size x x') (h:Hid (ja x R t cs)):Hid (ja x' R t cs):=hid (h.out.below hb h.out.lt)
theorem WS (v u:Value) (p q:Rat) (w:World) (h:Rt w v p) (h':Rt w u q) (hf:xO p q):
  Calls Tryz.prog 108 #[v,u] w (qE (p+q) w):=by
 obtain⟨nv,dv,rfl,h1,h2⟩:=h;obtain⟨mv,ev,rfl,h3,h4⟩:=h';have hdp:=p.den_pos;have heq:=q.den_pos
 obtain⟨g,hg⟩:∃g,Nat.gcd p.den q.den=g:=⟨_,rfl⟩
 obtain⟨r,hr⟩:∃r,xY (decide (p.num<0)) (p.num.natAbs*(q.den/g)) (decide (q.num<0)) (q.num.natAbs*(p.den/g))=r:=⟨_,rfl⟩
 have PP:=hid (Br p q g hg r hr)
 have hgp:0<g:=by rw[←hg];exact Nat.gcd_pos_of_pos_left _ p.den_pos
 have fx:jl (p.num.natAbs*(q.den/g)):=hf.2.2.le (Nat.le_trans (Nat.mul_le_mul_left _ (Nat.div_le_self _ _)) (Nat.le_add_right _ _));have fy:jl (q.num.natAbs*(p.den/g)):=hf.2.2.le (Nat.le_trans (Nat.mul_le_mul_left _ (Nat.div_le_self _ _)) (Nat.le_add_left _ _))
 have fr:jl r.2:=hf.2.2.le (by
  have ha:=G5 (decide (p.num<0)) (decide (q.num<0)) (p.num.natAbs*(q.den/g)) (q.num.natAbs*(p.den/g));rw[hr] at ha;have h1:p.num.natAbs*(q.den/g)≤p.num.natAbs*q.den:=Nat.mul_le_mul_left _ (Nat.div_le_self _ _);have h2:q.num.natAbs*(p.den/g)≤q.num.natAbs*p.den:=Nat.mul_le_mul_left _ (Nat.div_le_self _ _);unfold sg at ha
  split at ha <;> split at ha <;> omega)
 have fn:=hf.1.1;have fd:=hf.1.2;have fm:=hf.2.1.1;have fe:=hf.2.1.2;clear hf;have fA:jl (q.den/g):=fe.le (Nat.div_le_self _ _);have fB:jl (p.den/g):=fd.le (Nat.div_le_self _ _);have SS:=hid (fun (x y:Value) W (hx:Nt W x (p.num.natAbs*(q.den/g))) (hy:Nt W y (q.num.natAbs*(p.den/g)))=>(by have:=FD (decide (p.num<0)) (decide (q.num<0)) x y _ _ W hx hy fx fy;rw[hr] at this;exact this:Calls Tryz.prog 177 #[.bool (decide (p.num<0)),x,.bool (decide (q.num<0)),y] W (G4 r W)));obtain⟨s,z⟩:=r;dsimp only at PP fr;have HR:=hid hr;have HGg:=hid hg;clear hr hg fx fy;generalize decide (p.num<0)=na at *;generalize decide (q.num<0)=nb at *;generalize p.num.natAbs=n at *;generalize q.num.natAbs=m at *;generalize hpd:p.den=d at *;generalize hqe:q.den=e at *;have Hpd:=hid hpd;have Hqe:=hid hqe;clear hpd hqe
 obtain⟨W0,hW0⟩:∃W0,W0=((w.alloc (.cells #[.bool na,nv,dv] 122)).alloc (.cells #[.bool nb,mv,ev] 122)).alloc (.cells #[.bool false,.slice none 0 0,.slice none 0 0] 122):=⟨_,rfl⟩
 have hB0:Below w.heap.size w W0:=by rw[hW0];exact(((Below.refl _ _).alloc (Nat.le_refl _) _).alloc (by simp) _).alloc (by simp;omega) _
 have hs0:W0.heap.size=w.heap.size+3:=by rw[hW0];simp
 have hP:ja W0 w.heap.size 122 [.bool na,nv,dv]:=by rw[hW0];exact((ja.make w _ [.bool na,nv,dv]).alloc _).alloc _
 have hQ:ja W0 (w.heap.size+1) 122 [.bool nb,mv,ev]:=by
  rw[hW0];have:=ja.make (w.alloc (.cells #[.bool na,nv,dv] 122)) 122 [.bool nb,mv,ev];simp only[World.size_alloc] at this;exact this.alloc _
 have hRR:ja W0 (w.heap.size+1+1) 122 [.bool false,.slice none 0 0,.slice none 0 0]:=by
  rw[hW0];have:=ja.make ((w.alloc (.cells #[.bool na,nv,dv] 122)).alloc (.cells #[.bool nb,mv,ev] 122)) 122 [.bool false,.slice none 0 0,.slice none 0 0];simp only[World.size_alloc] at this;exact this
 have N1:=h1.below hB0;have N2:=h2.below hB0;have N3:=h3.below hB0;have N4:=h4.below hB0
 have KS:Hid (∀x,Below W0.heap.size W0 x→x.cell? ⟨w.heap.size,0,none⟩=some (.bool na)∧x.cell? ⟨w.heap.size,1,none⟩=some nv∧x.cell? ⟨w.heap.size+1,0,none⟩=some (.bool nb)∧x.cell? ⟨w.heap.size+1,1,none⟩=some mv∧x.cell? ⟨w.heap.size+1,2,none⟩=some ev∧Below W0.heap.size W0 x):=hid (fun x hb=>
  ⟨(hb.cell (p:=⟨w.heap.size,0,none⟩) hP.lt).trans (hP.cell 0),(hb.cell (p:=⟨w.heap.size,1,none⟩) hP.lt).trans (hP.cell 1),(hb.cell (p:=⟨w.heap.size+1,0,none⟩) hQ.lt).trans (hQ.cell 0),(hb.cell (p:=⟨w.heap.size+1,1,none⟩) hQ.lt).trans (hQ.cell 1),(hb.cell (p:=⟨w.heap.size+1,2,none⟩) hQ.lt).trans (hQ.cell 2),hb⟩)
 have KT:=hid (fun (x x':World) (hb:Below x.heap.size x x') (h5:Below W0.heap.size W0 x)=>KS.out x' (h5.trans (hb.mono h5.size)));have HS0:=hid hs0;have HRR:=hid hRR;have HB0:=hid hB0;obtain⟨p0,p1,p2,_,_,_⟩:=hP.three;obtain⟨q0,q1,q2,_,_,_⟩:=hQ.three;have hPl:=hP.lt;have hQl:=hQ.lt;have HP:=hid hP;have HQ:=hid hQ;clear hs0 h1 h2 h3 h4 hP hQ hRR hB0;go_enter Tryz.func108,Tryz.ntmps108
 go_upto_region 1 with fail
 rw[←hW0];clear hW0
 go_wp2_with fail
 refine(zW dv ev d e _ N2 N4 fd fe).mono ?_;rintro e1 w1 ⟨gv,rfl,hgv,hB1⟩;rw[HGg.out] at hgv;have x2:=(hB1.cell (p:=⟨w.heap.size,2,none⟩) hPl).trans p2;have HB1:=hid hB1
 go_wp2_with fail
 refine(zU dv gv d g _ (N2.below hB1) hgv hgp fd).mono ?_;rintro e2 w2 ⟨rv,rfl,hrv,hB2⟩;have HW2:=hid (hB1.trans (hB2.mono hB1.size));have hgv2:=hgv.below hB2;clear hB1 hB2 hgv x2 p0 p1 p2 q0 q1 q2
 go_wp2_with fail
 go_region_held3 (fun x=>x.cell? ⟨w.heap.size,0,none⟩=some (.bool na)∧x.cell? ⟨w.heap.size,1,none⟩=some nv∧x.cell? ⟨w.heap.size+1,0,none⟩=some (.bool nb)∧x.cell? ⟨w.heap.size+1,1,none⟩=some mv∧x.cell? ⟨w.heap.size+1,2,none⟩=some ev∧Below W0.heap.size W0 x)
  (first | exact KS.out _ HW2.out.drew | exact KT.out _ _ (by assumption) (by assumption))
  (first
   | (go_at_call 176;go_split_ands;refine(zU ev gv e g _ (N4.below (by assumption)) (hgv2.below (Below.refl _ _).drew) hgp fe).mono ?_;rintro e3 w3 ⟨xv,rfl,hxv,hB3⟩)
   | (go_at_call_of 178 nv;go_split_ands;refine(Qn nv xv n (e/g) _ (N1.below (by assumption)) hxv fn fA).mono ?_;rintro e4 w4 ⟨yv,rfl,hyv,hB4⟩)
   | (go_at_call_of 178 mv;go_split_ands;refine(Qn mv rv m (d/g) _ (N3.below (by assumption)) (hrv.below ((((Below.refl _ w2).drew).trans hB3).trans (hB4.mono hB3.size))) fm fB).mono ?_;rintro e5 w5 ⟨zv,rfl,hzv,hB5⟩)
   | (go_at_call 177;go_split_ands;refine(SS.out yv zv _ (hyv.below hB5) hzv).mono ?_;rintro e6 w6 ⟨sv,rfl,hsv,hB6⟩))
 have hW6:Below W0.heap.size W0 w6:=by go_split_ands;assumption
 have h26:Below w2.heap.size w2 w6:=(((xt hB3).trans (hB4.mono hB3.size)).trans (hB5.mono (Nat.le_trans hB3.size hB4.size))).trans (hB6.mono (Nat.le_trans hB3.size (Nat.le_trans hB4.size hB5.size)));have hgv6:=hgv2.below h26;have hrv6:=hrv.below h26;have HW6:=hid (HB0.out.trans (hW6.mono HB0.out.size));have HR6:=hid (HRR.out.below hW6 HRR.out.lt);have HQ6:=hid (HQ.out.below hW6 hQl);have N4':=N4.below hW6;have fg:jl g:=fd.le (by rw[←HGg.out];exact Nat.gcd_le_left _ hdp);clear hgv2 hrv hxv hyv hzv hB3 hB4 hB5 hB6 h26 KS KT HRR HW2 SS N1 N2 N3 N4 HP HQ hW6 HB1
 obtain⟨cg,hcg⟩:∃c,Nat.gcd z g=c:=⟨_,rfl⟩
 have hcp:0<cg:=by rw[←hcg];exact Nat.gcd_pos_of_pos_right _ hgp
 have HCG:=hid hcg;rw[hcg] at PP;clear hcg
 go_wp2_with fail
 refine(zW sv gv z g _ hsv hgv6 fr fg).mono ?_;rintro e7 w7 ⟨cv,rfl,hcv,hB7⟩;rw[HCG.out] at hcv;have HW7:=hid (HW6.out.trans (hB7.mono HW6.out.size));have hR7:Hid (ja w7.drew (w.heap.size+1+1) 122 [.bool false,.slice none 0 0,.slice none 0 0]):=hid (by have t:=HR6.out.below hB7 HR6.out.lt;exact t);have HQ7:=hid (HQ6.out.below hB7 HQ6.out.lt)
 have hs7:w.heap.size+2<w7.heap.size:=by have:=HR6.out.lt;have:=hB7.size;omega
 have hsv7:=hsv.below hB7;have hrv7:=hrv6.below hB7;have hev7:=N4'.below hB7;clear hB7 hsv hrv6 hgv6 HR6 HW6 HQ6 N4';have KS:Hid (w7.drew.cell? ⟨w.heap.size+1,2,none⟩=some ev∧w.heap.size+2<w7.drew.heap.size∧Below w.heap.size w w7.drew):=hid ⟨HQ7.out.cell 2,hs7,HW7.out.drew⟩;have KT:Hid (∀x x':World,Below x.heap.size x x'→x.cell? ⟨w.heap.size+1,2,none⟩=some ev→w.heap.size+2<x.heap.size→Below w.heap.size w x→x'.cell? ⟨w.heap.size+1,2,none⟩=some ev∧w.heap.size+2<x'.heap.size∧Below w.heap.size w x'):=hid (fun x x' hb h1 h2 h3=>⟨(hb.cell (p:=⟨w.heap.size+1,2,none⟩) (by simp;omega)).trans h1,Nat.lt_of_lt_of_le h2 hb.size,h3.trans (hb.mono h3.size)⟩)
 have KU:Hid (∀(x:World) (a b c:Value),x.cell? ⟨w.heap.size+1,2,none⟩=some ev→w.heap.size+2<x.heap.size→Below w.heap.size w x→(((x.setCell ⟨w.heap.size+1+1,0,none⟩ a).setCell ⟨w.heap.size+1+1,1,none⟩ b).setCell ⟨w.heap.size+1+1,2,none⟩ c).cell? ⟨w.heap.size+1,2,none⟩=some ev∧w.heap.size+2<(((x.setCell ⟨w.heap.size+1+1,0,none⟩ a).setCell ⟨w.heap.size+1+1,1,none⟩ b).setCell ⟨w.heap.size+1+1,2,none⟩ c).heap.size∧Below w.heap.size w (((x.setCell ⟨w.heap.size+1+1,0,none⟩ a).setCell ⟨w.heap.size+1+1,1,none⟩ b).setCell ⟨w.heap.size+1+1,2,none⟩ c)):=hid (fun x a b c h1 h2 h3=>by
  refine⟨?_,by simpa using h2,((h3.setCell (by simp;omega) _).setCell (by simp;omega) _).setCell (by simp;omega) _⟩;rw[World.cell?_setCell_other _ _ _ _ (by intro e;injection e with e1;omega),World.cell?_setCell_other _ _ _ _ (by intro e;injection e with e1;omega),World.cell?_setCell_other _ _ _ _ (by intro e;injection e with e1;omega)]
  exact h1)
 have fec:jl (e/cg):=fe.le (Nat.div_le_self _ _)
 go_wp2_with fail
 go_region_held3 (fun x=>x.cell? ⟨w.heap.size+1,2,none⟩=some ev∧w.heap.size+2<x.heap.size∧Below w.heap.size w x)
  (first | exact KS.out | exact KT.out _ _ (by assumption) (by assumption) (by assumption) (by assumption) | (go_split_ands;exact KU.out _ _ _ _ (by assumption) (by assumption) (by assumption)))
  (first
   | (go_at_call_of 176 sv;go_split_ands;refine(zU sv cv z cg _ (hsv7.below (Below.refl _ _).drew) (hcv.below (Below.refl _ _).drew) hcp fr).mono ?_;rintro e8 w8 ⟨xv,rfl,hxv,hB8⟩;have hR8:=qy hB8 hR7)
   | (go_at_call_of 176 ev;go_split_ands;refine(zU ev cv e cg _ (hev7.below (xt hB8)) (hcv.below (xt hB8)) hcp fe).mono ?_;rintro e9 w9 ⟨yv,rfl,hyv,hB9⟩;have hR9:=qy hB9 hR8)
   | (go_at_call 178;go_split_ands;refine(Qn rv yv (d/g) (e/cg) _ (hrv7.below ((xt hB8).trans (hB9.mono hB8.size))) hyv fB fec).mono ?_;rintro e10 w10 ⟨tv,rfl,htv,hB10⟩;have hR10:=qy hB10 hR9;obtain⟨r0,r1,r2,k0,k1,k2⟩:=hR10.out.three;obtain⟨A1,n1,c1,rfl,_⟩:=hxv.size_;obtain⟨A2,n2,c2,rfl,_⟩:=htv.size_))
 have hWf:Below w.heap.size w (((w10.setCell ⟨w.heap.size+1+1,0,none⟩ (.bool s)).setCell ⟨w.heap.size+1+1,1,none⟩ (.slice A1 n1 c1)).setCell ⟨w.heap.size+1+1,2,none⟩ (.slice A2 n2 c2)):=by go_split_ands;assumption
 have hx10:=hxv.below (hB9.trans (hB10.mono hB9.size));have Hn:=hid (hx10.put3 (c':= .slice A2 n2 c2) hR10.out (js _) (jq _ _ _) (jq _ _ _) (js s) hx10.noInt);have Hd:=hid (htv.put3 (c':= .slice A2 n2 c2) hR10.out (js _) (jq _ _ _) (jq _ _ _) (js s) hx10.noInt);have HWf:=hid hWf
 have HRt:Hid (qE (p+q) w (.returned (.agg #[.bool s,.slice A1 n1 c1,.slice A2 n2 c2])) (((w10.setCell ⟨w.heap.size+1+1,0,none⟩ (.bool s)).setCell ⟨w.heap.size+1+1,1,none⟩ (.slice A1 n1 c1)).setCell ⟨w.heap.size+1+1,2,none⟩ (.slice A2 n2 c2))):=hid (by
  refine⟨_,rfl,⟨_,_,by rw[PP.out.1],?_,?_⟩,HWf.out⟩
  ·rw[PP.out.2.1];exact Hn.out
  ·rw[PP.out.2.2];exact Hd.out)
 clear hx10 hxv htv hyv hWf Hn Hd HWf hB8 hB9 hB10 hR8 hR9 hR7 HW7 hcv hsv7 hrv7 hev7 KS KT KU PP
 go_wp2
 exact bodyPost_ret (v:= .agg #[.bool s,.slice A1 n1 c1,.slice A2 n2 c2]) (by simp[results,Tryz.results108,go_sem,r0,r1,r2]) rfl HRt.out
theorem xO.neg {p q:Rat} (h:xO p q):xO p (-q):=by
 obtain⟨h1,h2,h3⟩:=h;refine⟨h1,⟨by rw[Rat.neg_num,Int.natAbs_neg];exact h2.1,by rw[Rat.neg_den];exact h2.2⟩,by rw[Rat.neg_num,Int.natAbs_neg,Rat.neg_den];exact h3⟩
theorem BT {w x:World} {q:Rat} {g:Nat} {s:Bool} {a b:Value} (hv:Rt x (.agg #[.bool s,a,b]) q) (hR:ja x g 122 [.bool false,.slice none 0 0,.slice none 0 0]) (hB:Below w.heap.size w x) (hg:w.heap.size≤g):
  qE q w (.returned (.agg #[.bool s,a,b])) (((x.setCell ⟨g,0,none⟩ (.bool s)).setCell ⟨g,1,none⟩ a).setCell ⟨g,2,none⟩ b):=by
 obtain⟨nv,dv,he,h1,h2⟩:=hv
 have e:s=decide (q.num<0)∧a=nv∧b=dv:=by simpa using he
 obtain⟨rfl,rfl,rfl⟩:=e;exact⟨_,rfl,⟨_,_,rfl,h1.put3 hR (js _) (jq _ _ _) (jq _ _ _) (js _) h1.noInt,h2.put3 hR (js _) (jq _ _ _) (jq _ _ _) (js _) h1.noInt⟩,((hB.setCell (by simpa using hg) _).setCell (by simpa using hg) _).setCell (by simpa using hg) _⟩
theorem Rt.shape {w:World} {v:Value} {q:Rat} (h:Rt w v q):∃s A1 n1 c1 A2 n2 c2,v = .agg #[.bool s,.slice A1 n1 c1,.slice A2 n2 c2]:=by
 obtain⟨nv,dv,rfl,h1,h2⟩:=h;obtain⟨A1,n1,c1,rfl,_⟩:=h1.size_;obtain⟨A2,n2,c2,rfl,_⟩:=h2.size_;exact⟨_,_,_,_,_,_,_,rfl⟩
theorem WQ (v u:Value) (p q:Rat) (w:World) (h:Rt w v p) (h':Rt w u q) (hf:xO p q):
  Calls Tryz.prog 109 #[v,u] w (qE (p-q) w):=by
 have PL:=hid (fun (u:Value) W (h:Rt W v p) (h':Rt W u (-q))=>WS v u p (-q) W h h' hf.neg);have HE:Hid (p-q=p + -q):=hid (Rat.sub_eq_add_neg p q);obtain⟨s1,A1,n1,c1,A2,n2,c2,hv⟩:=h.shape;obtain⟨s2,A3,n3,c3,A4,n4,c4,hu⟩:=h'.shape;obtain⟨W0,hW0,hP,hQ,hR,hB0,hs0⟩:=Uy w (.bool s1) (.slice A1 n1 c1) (.slice A2 n2 c2) (.bool s2) (.slice A3 n3 c3) (.slice A4 n4 c4);have Hv:=hid (h.below hB0);have Hu:=hid (h'.below hB0);subst hv hu;obtain⟨p0,p1,p2,_,_,_⟩:=hP.three;obtain⟨q0,q1,q2,_,_,_⟩:=hQ.three;have HP:=hid hP;have HQ:=hid hQ;have HR:=hid hR;have HB0:=hid hB0;have hs:=hs0;have HRd:Hid (ja W0.drew (w.heap.size+1+1) 122 [.bool false,.slice none 0 0,.slice none 0 0]):=hid (by have t:=hR;exact t);clear h h' hf hP hQ hR hB0 hs0
 have KW:Hid (∀x:World,ja x w.heap.size 122 [.bool s1,.slice A1 n1 c1,.slice A2 n2 c2]→ja x (w.heap.size+1) 122 [.bool s2,.slice A3 n3 c3,.slice A4 n4 c4]→x.cell? ⟨w.heap.size,0,none⟩=some (.bool s1)∧x.cell? ⟨w.heap.size,1,none⟩=some (.slice A1 n1 c1)∧x.cell? ⟨w.heap.size,2,none⟩=some (.slice A2 n2 c2)∧x.cell? ⟨w.heap.size+1,0,none⟩=some (.bool s2)∧x.cell? ⟨w.heap.size+1,1,none⟩=some (.slice A3 n3 c3)∧x.cell? ⟨w.heap.size+1,2,none⟩=some (.slice A4 n4 c4)):=hid (fun x h1 h2=>
  ⟨h1.cell 0,h1.cell 1,h1.cell 2,h2.cell 0,h2.cell 1,h2.cell 2⟩)
 have hK0:Hid (ja W0.drew w.heap.size 122 [.bool s1,.slice A1 n1 c1,.slice A2 n2 c2]∧ja W0.drew (w.heap.size+1) 122 [.bool s2,.slice A3 n3 c3,.slice A4 n4 c4]):=hid ⟨HP.out,HQ.out⟩;have KT:Hid (∀x x':World,Below x.heap.size x x'→Hid (ja x w.heap.size 122 [.bool s1,.slice A1 n1 c1,.slice A2 n2 c2]∧ja x (w.heap.size+1) 122 [.bool s2,.slice A3 n3 c3,.slice A4 n4 c4])→Hid (ja x' w.heap.size 122 [.bool s1,.slice A1 n1 c1,.slice A2 n2 c2]∧ja x' (w.heap.size+1) 122 [.bool s2,.slice A3 n3 c3,.slice A4 n4 c4])):=hid (fun x x' hb h=>hid ⟨h.out.1.below hb h.out.1.lt,h.out.2.below hb h.out.2.lt⟩)
 have KU:Hid (∀(x:World) (a b c:Value),Hid (ja x w.heap.size 122 [.bool s1,.slice A1 n1 c1,.slice A2 n2 c2]∧ja x (w.heap.size+1) 122 [.bool s2,.slice A3 n3 c3,.slice A4 n4 c4])→Hid (ja (((x.setCell ⟨w.heap.size+1+1,0,none⟩ a).setCell ⟨w.heap.size+1+1,1,none⟩ b).setCell ⟨w.heap.size+1+1,2,none⟩ c) w.heap.size 122 [.bool s1,.slice A1 n1 c1,.slice A2 n2 c2]∧ja (((x.setCell ⟨w.heap.size+1+1,0,none⟩ a).setCell ⟨w.heap.size+1+1,1,none⟩ b).setCell ⟨w.heap.size+1+1,2,none⟩ c) (w.heap.size+1) 122 [.bool s2,.slice A3 n3 c3,.slice A4 n4 c4])):=hid (fun x a b c h=>hid
  ⟨((h.out.1.other (p:=⟨w.heap.size+1+1,0,none⟩) (by simp;omega) _).other (p:=⟨w.heap.size+1+1,1,none⟩) (by simp;omega) _).other (p:=⟨w.heap.size+1+1,2,none⟩) (by simp;omega) _,((h.out.2.other (p:=⟨w.heap.size+1+1,0,none⟩) (by simp) _).other (p:=⟨w.heap.size+1+1,1,none⟩) (by simp) _).other (p:=⟨w.heap.size+1+1,2,none⟩) (by simp) _⟩)
 go_enter Tryz.func109,Tryz.ntmps109
 go_upto_region 1 with fail
 rw[←hW0];clear hW0
 go_region_held3 (fun x=>x.cell? ⟨w.heap.size,0,none⟩=some (.bool s1)∧x.cell? ⟨w.heap.size,1,none⟩=some (.slice A1 n1 c1)∧x.cell? ⟨w.heap.size,2,none⟩=some (.slice A2 n2 c2)∧x.cell? ⟨w.heap.size+1,0,none⟩=some (.bool s2)∧x.cell? ⟨w.heap.size+1,1,none⟩=some (.slice A3 n3 c3)∧x.cell? ⟨w.heap.size+1,2,none⟩=some (.slice A4 n4 c4))
  (first | exact KW.out _ hK0.out.1 hK0.out.2 | exact KW.out _ hK1.out.1 hK1.out.2 | exact KW.out _ hK2.out.1 hK2.out.2 | exact KW.out _ (KU.out _ _ _ _ hK2).out.1 (KU.out _ _ _ _ hK2).out.2)
  (first
   | (go_at_call 179;refine(Af _ q _ (Hu.out.below (Below.refl _ _).drew)).mono ?_;rintro e1 w1 ⟨nv,rfl,hnv,hB1⟩;have hK1:=KT.out _ _ hB1 hK0;have hR1:=qy hB1 HRd)
   | (go_at_call 108;refine(PL.out nv _ (Hv.out.below (xt hB1)) hnv).mono ?_;rintro e2 w2 ⟨rv,rfl,hrv,hB2⟩;have hK2:=KT.out _ _ hB2 hK1;have hR2:=qy hB2 hR1;obtain⟨s5,A5,n5,c5,A6,n6,c6,rfl⟩:=hrv.shape;obtain⟨r0,r1,r2,k0,k1,k2⟩:=hR2.out.three))
 have hB2':=((HB0.out.trans ((xt hB1).mono HB0.out.size)).trans (hB2.mono (Nat.le_trans HB0.out.size hB1.size)))
 have HEnd:=hid (BT hrv hR2.out hB2' (show w.heap.size≤w.heap.size+1+1 by omega));clear hB2' hB1 hB2 hrv hR1 hR2 hK1 hK2 KW KT KU PL Hu Hv;rw[←HE.out] at HEnd
 go_wp2
 exact bodyPost_ret (v:= .agg #[.bool s5,.slice A5 n5 c5,.slice A6 n6 c6]) (by simp[results,Tryz.results109,go_sem,r0,r1,r2]) rfl HEnd.out
theorem Gz (v u:Value) (p q:Rat) (w:World) (h:Rt w v p) (h':Rt w u q) (hf:xO p q):
  Calls Tryz.prog 315 #[.agg #[],v,u] w (qE (p-q) w):=by
 have RO:=hid (fun W (h:Rt W v p) (h':Rt W u q)=>WQ v u p q W h h' hf);clear hf;have HH:=hid h;have HH':=hid h';obtain⟨av,bv,hv,-,-⟩:=h;obtain⟨cv,dv,hu,-,-⟩:=h';generalize decide (p.num<0)=na at hv;generalize decide (q.num<0)=nb at hu
 obtain⟨W0,hW0⟩:∃W0,W0=(((w.alloc (.cells #[] 172)).alloc (.cells #[.bool na,av,bv] 122)).alloc (.cells #[.bool nb,cv,dv] 122)).alloc (.cells #[.bool false,.slice none 0 0,.slice none 0 0] 122):=⟨_,rfl⟩
 have hB0:Below w.heap.size w W0:=by rw[hW0];exact((((Below.refl _ _).alloc (Nat.le_refl _) _).alloc (by simp) _).alloc (by simp;omega) _).alloc (by simp;omega) _
 have hP:ja W0 (w.heap.size+1) 122 [.bool na,av,bv]:=by
  rw[hW0];have:=ja.make (w.alloc (.cells #[] 172)) 122 [.bool na,av,bv];simp only[World.size_alloc] at this;exact(this.alloc _).alloc _
 have hQ:ja W0 (w.heap.size+1+1) 122 [.bool nb,cv,dv]:=by
  rw[hW0];have:=ja.make ((w.alloc (.cells #[] 172)).alloc (.cells #[.bool na,av,bv] 122)) 122 [.bool nb,cv,dv];simp only[World.size_alloc] at this;exact this.alloc _
 have hR:ja W0 (w.heap.size+1+1+1) 122 [.bool false,.slice none 0 0,.slice none 0 0]:=by
  rw[hW0];have:=ja.make (((w.alloc (.cells #[] 172)).alloc (.cells #[.bool na,av,bv] 122)).alloc (.cells #[.bool nb,cv,dv] 122)) 122 [.bool false,.slice none 0 0,.slice none 0 0];simp only[World.size_alloc] at this;exact this
 have HR:=hid hR;obtain⟨c0,c1,c2,_,_,_⟩:=hP.three;obtain⟨d0,d1,d2,_,_,_⟩:=hQ.three;have RX:=hid (RO.out W0 (HH.out.below hB0) (HH'.out.below hB0));clear hP hQ hR RO HH HH';subst hv hu;go_enter Tryz.func315,Tryz.ntmps315
 go_upto_region 1 with fail
 rw[←hW0];clear hW0
 go_wp2_with fail
 refine RX.out.mono ?_;rintro e w2 ⟨v,rfl,hv,hB2⟩;clear c0 c1 c2 d0 d1 d2;obtain⟨nv,ev,rfl,hn,hd⟩:=hv;have hR2:=HR.out.below hB2 HR.out.lt;have hBt:=hB0.trans (hB2.mono hB0.size);have Hn:=hid (hn.put3 (c':=ev) hR2 (js _) (jq _ _ _) (jq _ _ _) (js (decide ((p-q).num<0))) hn.noInt);have Hd:=hid (hd.put3 (c':=ev) hR2 (js _) (jq _ _ _) (jq _ _ _) (js (decide ((p-q).num<0))) hn.noInt);obtain⟨e0,e1,e2,k0,k1,k2⟩:=hR2.three;obtain⟨A1,k1',c1,rfl,_⟩:=hn.size_;obtain⟨A2,k2',c2,rfl,_⟩:=hd.size_;clear hn hd hR2 hB2 RX HR
 have KR:∃ng,Hid (ng=decide ((p-q).num<0)):=⟨_,hid rfl⟩
 obtain⟨ng,hng⟩:=KR;rw[←hng.out] at Hn Hd;rw[←hng.out]
 go_wp2
 exact bodyPost_ret (v:= .agg #[.bool ng,.slice A1 k1' c1,.slice A2 k2' c2]) (by simp[results,Tryz.results315,go_sem,e0,e1,e2]) rfl ⟨_,rfl,⟨_,_,by rw[hng.out],Hn.out,Hd.out⟩,((hBt.setCell (by simp;omega) _).setCell (by simp;omega) _).setCell (by simp;omega) _⟩
abbrev El:=Bool×Value×Value
def k8 (e:El):Value:= .agg #[.bool e.1,e.2.1,e.2.2]
def Js (e:El):List Value:=[.bool e.1,e.2.1,e.2.2]
def jw:List El→List Value
 | []=>[]
 | e::t=> .bool e.1::e.2.1::e.2.2::jw t
theorem qC (es:List El):(jw es).length=es.length*3:=by
 induction es with
 | nil=>rfl
 | cons e t ih=>simp only[jw,List.length_cons,ih];omega
theorem QY (es:List El) (j:Nat) (e:El) (h:es[j]? =some e):(jw es)[j*3]? =some (.bool e.1)∧(jw es)[j*3+1]? =some e.2.1∧(jw es)[j*3+2]? =some e.2.2:=by
 induction es generalizing j with
 | nil=>cases h
 | cons a t ih=>
  cases j with
  | zero=>simp at h;subst h;simp[jw]
  | succ j=>
   simp at h;have:=ih j h;rw[show (j+1)*3=j*3+1+1+1 by omega];simpa [jw] using this
theorem U3 (es:List El) (j:Nat) (e:El) (h:j<es.length):(((jw es).set (j*3) (.bool e.1)).set (j*3+1) e.2.1).set (j*3+2) e.2.2=jw (es.set j e):=by
 induction es generalizing j with
 | nil=>simp at h
 | cons a t ih=>
  cases j with
  | zero=>simp[jw]
  | succ j=>
   simp at h;rw[show (j+1)*3=j*3+1+1+1 by omega];simp only[jw,List.set_cons_succ];rw[ih j h]
theorem TU (es:List El) (h:∀e∈es,km e.2.1∧km e.2.2):∀c∈jw es,km c:=by
 induction es with
 | nil=>intro c hc;cases hc
 | cons a t ih=>
  intro c hc;simp only[jw,List.mem_cons] at hc;have ha:=h a (by simp);rcases hc with rfl | rfl | rfl | hc
  ·exact js _
  ·exact ha.1
  ·exact ha.2
  ·exact ih (fun e he=>h e (by simp[he])) c hc
structure jp (w:World) (b:Nat) (es:List El) (qs:List Rat):Prop where
 own:ja w b 122 (jw es)
 len:qs.length≤es.length
 noi:∀e∈es,km e.2.1∧km e.2.2
 num:∀(i:Nat) (e:El) (q:Rat),es[i]? =some e→qs[i]? =some q→Rt w (k8 e) q
section
variable {w w':World} {b:Nat} {es:List El} {qs:List Rat}
theorem jp.noInt (h:jp w b es qs):∀c∈jw es,km c:=TU es h.noi
theorem Rt.elNo {e:El} {q:Rat} (h:Rt w (k8 e) q):km e.2.1∧km e.2.2:=by
 obtain⟨nv,dv,hv,h1,h2⟩:=h
 have e2:e.2.1=nv∧e.2.2=dv:=by simp[k8] at hv;exact hv.2
 rw[e2.1,e2.2];exact⟨h1.noInt,h2.noInt⟩
theorem jp.below (h:jp w b es qs) (hb:Below w.heap.size w w'):jp w' b es qs:=
 ⟨h.own.below hb h.own.lt,h.len,h.noi,fun i e q he hq=>(h.num i e q he hq).below hb⟩
theorem Nt.stay {g:Nat} {t:TypeId} {cs:List Value} {v:Value} {x:Nat} (h:Nt w v x) (hO:ja w g t cs) (hc:∀c∈cs,km c) (hb:jh g w w'):Nt w' v x:=by
 obtain⟨ws,h1,h2,h3,A,n,c,hv,h4,h5,h6,h7⟩:=h;refine⟨ws,h1,h2,h3,A,n,c,hv,h4,h5,h6,fun hn=> ?_⟩;obtain⟨b,off,hA,hlt,hcell⟩:=h7 hn;refine⟨b,off,hA,Nat.lt_of_lt_of_le hlt hb.size,fun j u hu=> ?_⟩;have hj:=hcell j u hu
 have hne:b≠g:=by
  rintro rfl;rw[hO.cell] at hj;obtain⟨y,_,hy⟩:=List.mem_map.1 (List.mem_of_getElem? hu);exact hc u (List.mem_of_getElem? hj) _ _ hy.symm
 exact(World.cell?_of_block (a:=⟨b,off+j,none⟩) (hb.block b hlt hne)).trans hj
theorem Rt.stay {g:Nat} {t:TypeId} {cs:List Value} {v:Value} {q:Rat} (h:Rt w v q) (hO:ja w g t cs) (hc:∀c∈cs,km c) (hb:jh g w w'):Rt w' v q:=by
 obtain⟨nv,dv,hv,h1,h2⟩:=h;exact⟨nv,dv,hv,h1.stay hO hc hb,h2.stay hO hc hb⟩
theorem jp.stay {g:Nat} {t:TypeId} {cs:List Value} (h:jp w b es qs) (hO:ja w g t cs) (hc:∀c∈cs,km c) (hb:jh g w w') (hg:b≠g):jp w' b es qs:=
 ⟨h.own.but hb hg,h.len,h.noi,fun i e q he hq=>(h.num i e q he hq).stay hO hc hb⟩
theorem jh.set3 (w:World) (g i:Nat) (a b c:Value):jh g w (((w.setCell ⟨g,i,none⟩ a).setCell ⟨g,i+1,none⟩ b).setCell ⟨g,i+2,none⟩ c):=
 (((jh.refl g w).setCell ⟨g,i,none⟩ rfl a).setCell ⟨g,i+1,none⟩ rfl b).setCell ⟨g,i+2,none⟩ rfl c
theorem jp.put (h:jp w b es qs) {j:Nat} {e:El} {q:Rat} (hj:j<qs.length) (hq:Rt w (k8 e) q):
  jp (((w.setCell ⟨b,j*3,none⟩ (.bool e.1)).setCell ⟨b,j*3+1,none⟩ e.2.1).setCell ⟨b,j*3+2,none⟩ e.2.2) b (es.set j e) (qs.set j q):=by
 have hb:=jh.set3 w b (j*3) (.bool e.1) e.2.1 e.2.2;have hn:=h.noInt;have hjl:j<es.length:=Nat.lt_of_lt_of_le hj h.len;refine⟨?_,by simpa using h.len,fun a ha=> ?_,fun i a r hi hr=> ?_⟩
 ·rw[←U3 es j e hjl]
  exact((h.own.put _ _).put _ _).put _ _
 ·rcases List.mem_or_eq_of_mem_set ha with ha | rfl
  ·exact h.noi a ha
  ·exact hq.elNo
 ·by_cases hij:j=i
  ·subst hij
   rw[List.getElem?_set_self hjl] at hi;rw[List.getElem?_set_self hj] at hr;obtain rfl:=Option.some.inj hi;obtain rfl:=Option.some.inj hr;exact hq.stay h.own hn hb
  ·rw[List.getElem?_set_ne hij] at hi hr
   exact(h.num i a r hi hr).stay h.own hn hb
theorem jp.at_ (h:jp w b es qs) {j:Nat} (hj:j<qs.length):∃(e:El) (A1:Option Addr) (n1 c1:Nat) (A2:Option Addr) (n2 c2:Nat),es[j]? =some e∧e=(e.1,.slice A1 n1 c1,.slice A2 n2 c2)∧Rt w (k8 e) (qs[j]?.getD 0) ∧
  w.cell? ⟨b,j*3,none⟩=some (.bool e.1)∧w.cell? ⟨b,j*3+1,none⟩=some (.slice A1 n1 c1)∧w.cell? ⟨b,j*3+2,none⟩=some (.slice A2 n2 c2) ∧
  w.frozen? ⟨b,j*3,none⟩=false∧w.frozen? ⟨b,j*3+1,none⟩=false∧w.frozen? ⟨b,j*3+2,none⟩=false:=by
 have hl:j<es.length:=Nat.lt_of_lt_of_le hj h.len
 obtain⟨e0,he⟩:∃e0,es[j]? =some e0:=⟨es[j],List.getElem?_eq_getElem hl⟩
 have hr:=h.num j _ _ he (List.getElem?_eq_getElem hj);obtain⟨s,A1,n1,c1,A2,n2,c2,hs⟩:=hr.shape;obtain⟨s',a',b'⟩:=e0;simp[k8] at hs;obtain⟨rfl,rfl,rfl⟩:=hs;obtain⟨h1,h2,h3⟩:=QY es j _ he;refine⟨_,A1,n1,c1,A2,n2,c2,he,rfl,?_,(h.own.cell _).trans h1,(h.own.cell _).trans h2,(h.own.cell _).trans h3,h.own.free _,h.own.free _,h.own.free _⟩;rw[List.getElem?_eq_getElem hj];exact hr
end
def xh {T:Type} (f:T→T) (o k:Nat) (L:List T):List T:=L.mapIdx fun j x=>if o≤j∧j<o+k then f x else x
section
variable {T:Type} (f:T→T) (o k:Nat) (L:List T)
theorem YV:(xh f o k L).length=L.length:=by simp[xh]
theorem DS:xh f o 0 L=L:=by
 apply List.ext_getElem?;intro j;simp only[xh,List.getElem?_mapIdx,Nat.add_zero]
 cases L[j]? with
 | none=>rfl
 | some x=>simp only[Option.map_some];rw[if_neg (by omega)]
theorem VR:(xh f o k L)[o+k]? =L[o+k]? :=by
 simp only[xh,List.getElem?_mapIdx,Nat.lt_irrefl,and_false,if_false];cases L[o+k]? <;> simp
theorem VS (x:T) (hx:L[o+k]? =some x):(xh f o k L).set (o+k) (f x)=xh f o (k+1) L:=by
 have h:=(List.getElem?_eq_some_iff.1 hx).1;apply List.ext_getElem?;intro j;rw[List.getElem?_set];simp only[xh,List.getElem?_mapIdx,List.length_mapIdx];by_cases hj:o+k=j
 ·subst hj;rw[if_pos rfl,if_pos h,hx];simp
 ·rw[if_neg hj]
  rcases Nat.lt_or_ge j L.length with hl | hl
  ·rw[List.getElem?_eq_getElem hl]
   simp only[Option.map_some,Option.some.injEq];by_cases h2:o≤j∧j<o+k
   ·rw[if_pos h2,if_pos (by omega)]
   ·rw[if_neg h2,if_neg (by omega)]
  ·rw[List.getElem?_eq_none hl];rfl
theorem DQ (x:T) (hx:L[o+k]? =some x) (hf:f x=x):xh f o (k+1) L=xh f o k L:=by
 rw[←VS f o k L x hx,hf];apply List.ext_getElem?;intro j;rw[List.getElem?_set,YV];by_cases hj:o+k=j
 ·subst hj;rw[VR,hx];simp[(List.getElem?_eq_some_iff.1 hx).1]
 ·rw[if_neg hj]
end
def jd:Fd Rat:=⟨0,fun q=>decide (q=0),fun a b=>a-b,fun a b=>a*b,fun a b=>a/b⟩
def y6 (d x:Rat):Rat:=if x=0 then x else x/d
theorem Tp (d:Rat) (o n:Nat) (L:List Rat) (h:o+n=L.length):xh (y6 d) o n L=kf jd d o L:=by
 unfold xh kf;apply List.ext_getElem?;intro j;simp only[List.getElem?_mapIdx];rcases Nat.lt_or_ge j L.length with hl | hl
 ·rw[List.getElem?_eq_getElem hl]
  simp only[Option.map_some,Option.some.injEq];by_cases h2:o≤j
  ·rw[if_pos ⟨h2,by omega⟩,if_pos h2];simp[y6,jd]
  ·rw[if_neg (by omega),if_neg h2]
 ·rw[List.getElem?_eq_none hl];rfl
theorem BU (q:Rat):(qM q==0)=decide (q=0):=by
 unfold qM;by_cases h:q=0
 ·subst h;decide
 ·have:q.num≠0:=fun e=>h (Rat.num_eq_zero.1 e)
  rw[if_neg this,decide_eq_false h]
  split <;> decide
theorem KV (v:Value) (q:Rat) (w:World) (h:Rt w v q):Calls Tryz.prog 314 #[.agg #[],v] w fun e w'=>e = .returned (.bool (decide (q=0)))∧Below w.heap.size w w':=
 (Fe v q w h).mono fun e w' h=>⟨by rw[h.1,BU],h.2⟩
theorem Zo (w:World):(method 444 172 (.agg #[]) "talisman/algebra.isZero").run Tryz.prog w = .ok (314,.agg #[]) w:=by kernel_rfl
theorem BC (w:World):(method 444 172 (.agg #[]) "talisman/algebra.over").run Tryz.prog w = .ok (317,.agg #[]) w:=by kernel_rfl
theorem WK (w:World):(method 444 172 (.agg #[]) "talisman/algebra.times").run Tryz.prog w = .ok (318,.agg #[]) w:=by kernel_rfl
theorem WI (w:World):(method 444 172 (.agg #[]) "talisman/algebra.minus").run Tryz.prog w = .ok (315,.agg #[]) w:=by kernel_rfl
theorem Zn (w:World):(method 444 172 (.agg #[]) "talisman/algebra.of").run Tryz.prog w = .ok (316,.agg #[]) w:=by kernel_rfl
theorem Tw (dv:Value) (d:Rat) (w:World) (b o n c:Nat) (es:List El) (L:List Rat) (hO:jp w b es L) (hn:o+n=L.length) (hc1:n≤c) (hc2:c≤9223372036854775807)
  (hd:Rt w dv d) (hd0:d≠0) (hdf:kv d) (hL:∀x∈L,kv x):
  Calls Tryz.prog 202 #[.iface 172 (.agg #[]),.slice (some ⟨b,o*3,none⟩) n c,dv] w fun e w'=>
   e = .returned (.tuple #[])∧(∃es',jp w' b es' (xh (y6 d) o n L))∧jh b w w':=by
 have hZ:=Zo;have hV:=BC;have HO:=hid hO;have HN:=hid hn;have HL:=hid hL;have HDF:=hid hdf;have HD0:=hid hd0;obtain⟨s,A1,n1,c1,A2,n2,c2,hdv⟩:=hd.shape;have HD:=hid hd;clear hO hn hL hd hdf hd0;subst hdv;go_enter Tryz.func202,Tryz.ntmps202
 go_wp2_with fail
 go_loopg [10] n (fun gh i wr=>∃k:Nat,i = .int .i64 k∧k+gh=n∧Hid (∃es',jp wr b es' (xh (y6 d) o k L))∧Hid (jh b w wr)∧Hid (ja wr w.heap.size 122 [.bool s,.slice A1 n1 c1,.slice A2 n2 c2])∧Hid (Rt wr (.agg #[.bool s,.slice A1 n1 c1,.slice A2 n2 c2]) d))
 case atStart=>
  have hal:Below w.heap.size w (w.alloc (.cells #[.bool s,.slice A1 n1 c1,.slice A2 n2 c2] 122)):=(Below.refl _ _).alloc (Nat.le_refl _) _;exact⟨0,rfl,by omega,hid ⟨es,by rw[DS];exact HO.out.below hal⟩,hid (jh.of_below hal),hid (ja.make w _ [.bool s,.slice A1 n1 c1,.slice A2 n2 c2]),hid (HD.out.below hal)⟩
 case round=>
  obtain⟨k,rfl,hk,hR,hB,hX,hDv⟩:=hrel
  cases gk with
  | zero=>
   have hin:¬((k:Int)<(n:Int)):=by omega
   have hkn:k=n:=by omega
   rw[hkn] at hR;clear hkn hk
   go_wp2
   go_end0
   exact⟨rfl,hR.out,hB.out⟩
  | succ gh=>
   have hlt:k<n:=by omega
   have hlt':(k:Int)<(n:Int):=by omega
   obtain⟨es1,hR1⟩:=hR.out;obtain⟨e,B1,m1,k1,B2,m2,k2,he,hee,hrt,y0,y1,y2,z0,z1,z2⟩:=hR1.at_ (j:=o+k) (by rw[YV];have:=HN.out;omega);rw[VR] at hrt;rw[Nat.add_mul] at y0 y1 y2 z0 z1 z2;obtain⟨e0,ea,eb⟩:=e
   have hea:ea = .slice B1 m1 k1∧eb = .slice B2 m2 k2:=by simpa using hee
   obtain⟨rfl,rfl⟩:=hea;clear hee;unfold k8 at hrt;dsimp only at hrt y0
   have hol:o+k<L.length:=by have:=HN.out;omega
   have hx:L[o+k]? =some (L[o+k]?.getD 0):=by rw[List.getElem?_eq_getElem hol];rfl
   have hfx:=HL.out (L[o+k]?.getD 0) (List.mem_of_getElem? hx);have Hsame:=hid (DQ (y6 d) o k L _ hx);have Hsucc:=hid (VS (y6 d) o k L _ hx);have Hfx:=hid hfx;have Hk:=hid hk;have HR1:=hid hR1;have hbl:=hR1.own.lt;clear hx hol hfx hk hR1 hR;generalize L[o+k]?.getD 0=x at *;have hal:Below wr.heap.size wr (wr.alloc (.cells #[.bool e0,.slice B1 m1 k1,.slice B2 m2 k2] 122)):=(Below.refl _ _).alloc (Nat.le_refl _) _;have hXX:=ja.make wr 122 [.bool e0,.slice B1 m1 k1,.slice B2 m2 k2];have hXl:=hX.out.lt
   go_wp2_with fail
   refine(KV _ x _ (hrt.below hal)).mono ?_;rintro ee w2 ⟨rfl,hB2⟩;have hB12:Below wr.heap.size wr w2:=hal.trans (hB2.mono hal.size);by_cases h0:x=0
   ·have HR2:Hid (∃es',jp w2 b es' (xh (y6 d) o (k+1) L)):=hid ⟨es1,by rw[Hsame.out (by unfold y6;rw[if_pos h0])];exact HR1.out.below hB12⟩
    have HB2:=hid (hB.out.below hB12);have HX2:=hid (hX.out.below hB12 hXl);have HD2:=hid (hDv.out.below hB12);rw[decide_eq_true h0];clear h0 hB12 hB2 hal hXX y0 y1 y2 z0 z1 z2 HR1 hB hX hDv hrt hXl
    go_wp2
    go_roundg gh
    case rel=>exact⟨k+1,by go_num,by have:=Hk.out;omega,HR2,HB2,HX2,HD2⟩
    case measure=>omega
   ·have Hv:Hid (y6 d x=x/d):=hid (by unfold y6;rw[if_neg h0])
    rw[decide_eq_false h0];have hX2:=hX.out.below hB12 hXl;have hXX2:=hXX.below hB2 (by simp);obtain⟨a0,a1,a2,_,_,_⟩:=hX2.three;obtain⟨b0,b1,b2,_,_,_⟩:=hXX2.three;have OV:=hid (Ff (.agg #[.bool e0,.slice B1 m1 k1,.slice B2 m2 k2]) (.agg #[.bool s,.slice A1 n1 c1,.slice A2 n2 c2]) x d w2 (hrt.below hB12) (hDv.out.below hB12) HD0.out Hfx.out.1 Hfx.out.2 HDF.out.1 HDF.out.2);have HB12:=hid hB12;clear h0 hB12 hB2 hal hXX
    go_wp2_with fail
    refine OV.out.mono ?_;clear OV;rintro ee w3 ⟨rv,rfl,hrv,hB3⟩;have HB13:=hid (HB12.out.trans (hB3.mono HB12.out.size));obtain⟨s5,A5,n5,c5,A6,n6,c6,rfl⟩:=hrv.shape;have y0':=(HB13.out.cell (p:=⟨b,o*3+k*3,none⟩) hbl).trans y0;have y1':=(HB13.out.cell (p:=⟨b,o*3+k*3+1,none⟩) hbl).trans y1;have y2':=(HB13.out.cell (p:=⟨b,o*3+k*3+2,none⟩) hbl).trans y2;have z0':=(HB13.out.frozen (p:=⟨b,o*3+k*3,none⟩) hbl).trans z0;have z1':=(HB13.out.frozen (p:=⟨b,o*3+k*3+1,none⟩) hbl).trans z1;have z2':=(HB13.out.frozen (p:=⟨b,o*3+k*3+2,none⟩) hbl).trans z2;have hbl3:b<w3.heap.size:=Nat.lt_of_lt_of_le hbl HB13.out.size;have HP:=hid ((HR1.out.below HB13.out).put (j:=o+k) (e:=(s5,.slice A5 n5 c5,.slice A6 n6 c6)) (q:=x/d) (by rw[YV];have:=HN.out;omega) hrv);rw[Nat.add_mul,←Hv.out,Hsucc.out] at HP;dsimp only at HP;have HBt:=hid ((hB.out.below HB13.out).trans (jh.set3 w3 b (o*3+k*3) (.bool s5) (.slice A5 n5 c5) (.slice A6 n6 c6)))
    have hne:w.heap.size≠b:=fun e=>by have:=HO.out.own.lt;omega
    have HXt:=hid ((hX.out.below HB13.out hXl).but (jh.set3 w3 b (o*3+k*3) (.bool s5) (.slice A5 n5 c5) (.slice A6 n6 c6)) hne);have HDt:=hid ((hDv.out.below HB13.out).stay (HR1.out.below HB13.out).own (HR1.out.below HB13.out).noInt (jh.set3 w3 b (o*3+k*3) (.bool s5) (.slice A5 n5 c5) (.slice A6 n6 c6)));clear hrv hB3 a0 a1 a2 b0 b1 b2 y0 y1 y2 z0 z1 z2 hX2 hXX2 hrt hX hDv hB HR1 HB12 HB13 hXl hne
    go_wp2
    go_roundg gh
    case rel=>exact⟨k+1,by go_num,by have:=Hk.out;omega,hid ⟨_,HP.out⟩,HBt,HXt,HDt⟩
    case measure=>omega
def kS {T:Type} (z:T) (g:T→T→T) (o k:Nat) (L P:List T):List T:=L.mapIdx fun j y=>if o≤j∧j<o+k then g y (P[j]?.getD z) else y
section
variable {T:Type} (z:T) (g:T→T→T) (o k:Nat) (L P:List T)
theorem ZY:(kS z g o k L P).length=L.length:=by simp[kS]
theorem MF:kS z g o 0 L P=L:=by
 apply List.ext_getElem?;intro j;simp only[kS,List.getElem?_mapIdx,Nat.add_zero]
 cases L[j]? with
 | none=>rfl
 | some x=>simp only[Option.map_some];rw[if_neg (by omega)]
theorem ZX:(kS z g o k L P)[o+k]? =L[o+k]? :=by
 simp only[kS,List.getElem?_mapIdx,Nat.lt_irrefl,and_false,if_false];cases L[o+k]? <;> simp
theorem ZZ (y:T) (hy:L[o+k]? =some y):(kS z g o k L P).set (o+k) (g y (P[o+k]?.getD z))=kS z g o (k+1) L P:=by
 have h:=(List.getElem?_eq_some_iff.1 hy).1;apply List.ext_getElem?;intro j;rw[List.getElem?_set];simp only[kS,List.getElem?_mapIdx,List.length_mapIdx];by_cases hj:o+k=j
 ·subst hj;rw[if_pos rfl,if_pos h,hy];simp
 ·rw[if_neg hj]
  rcases Nat.lt_or_ge j L.length with hl | hl
  ·rw[List.getElem?_eq_getElem hl]
   simp only[Option.map_some,Option.some.injEq];by_cases h2:o≤j∧j<o+k
   ·rw[if_pos h2,if_pos (by omega)]
   ·rw[if_neg h2,if_neg (by omega)]
  ·rw[List.getElem?_eq_none hl];rfl
theorem L1 (y:T) (hy:L[o+k]? =some y) (hf:g y (P[o+k]?.getD z)=y):kS z g o (k+1) L P=kS z g o k L P:=by
 rw[←ZZ z g o k L P y hy,hf];apply List.ext_getElem?;intro j;rw[List.getElem?_set,ZY];by_cases hj:o+k=j
 ·subst hj;rw[ZX,hy];simp[(List.getElem?_eq_some_iff.1 hy).1]
 ·rw[if_neg hj]
end
def yk (f y x:Rat):Rat:=if x=0 then y else y-f*x
def zS (o n:Nat) (L P:List Rat):List Rat:=if L[o]?.getD 0=0 then L else kS 0 (yk (L[o]?.getD 0)) o n L P
theorem R3 (o n:Nat) (L P:List Rat) (h:o+n=L.length):zS o n L P=kX jd o L P:=by
 unfold zS kX;have hz:jd.z=0:=rfl
 have hi:∀x,(jd.isZ x=true)=(x=0):=fun x=>by simp[jd]
 rw[hz];simp only[hi];split
 ·rfl
 ·unfold kS
  apply List.ext_getElem?;intro j;simp only[List.getElem?_mapIdx];rcases Nat.lt_or_ge j L.length with hl | hl
  ·rw[List.getElem?_eq_getElem hl]
   simp only[Option.map_some,Option.some.injEq];by_cases h2:o≤j
   ·rw[if_pos ⟨h2,by omega⟩,if_pos h2];simp[yk,jd]
   ·rw[if_neg (by omega),if_neg h2]
  ·rw[List.getElem?_eq_none hl];rfl
theorem WJ (w:World):(nilAhead 444 172 (.agg #[]) "talisman/algebra.minus").run Tryz.prog w = .ok (some false) w:=by kernel_rfl
def Qv (o:Nat) (L P:List Rat):Prop:=kv (L[o]?.getD 0) ∧ ∀j,o≤j→j<L.length→kv (P[j]?.getD 0)∧xO (L[j]?.getD 0) (L[o]?.getD 0*P[j]?.getD 0)
theorem WL (w:World):(nilAhead 444 172 (.agg #[]) "talisman/algebra.isZero").run Tryz.prog w = .ok (some false) w:=by kernel_rfl
abbrev jr:=jV Rat
def jZ (n:Nat) (r:jr):Value:= .slice (some ⟨r.1,0,none⟩) n r.2.1
structure j8 (w:World) (g:Nat) (R:List jr) (n:Nat):Prop where
 own:ja w g 167 (R.map (jZ n))
 row:∀r∈R,(∃es,jp w r.1 es r.2.2)∧r.2.2.length=n∧n≤r.2.1∧r.2.1≤9223372036854775807
 apart:(R.map (·.1)).Nodup
theorem j8.below {w w':World} {g:Nat} {R:List jr} {n:Nat} (h:j8 w g R n) (hb:Below w.heap.size w w'):j8 w' g R n:=
 ⟨h.own.below hb h.own.lt,fun r hr=>⟨by obtain⟨es,he⟩:=(h.row r hr).1;exact⟨es,he.below hb⟩,(h.row r hr).2⟩,h.apart⟩
theorem j8.cellRow {w:World} {g:Nat} {R:List jr} {n:Nat} (h:j8 w g R n) {i:Nat} {r:jr} (hr:R[i]? =some r):w.cell? ⟨g,i,none⟩=some (jZ n r):=by
 rw[h.own.cell i,List.getElem?_map,hr];rfl
theorem Qp (g c n:Nat) (R:List jr) (w:World) (hM:j8 w g R n):
  Calls Tryz.prog 159 #[.slice (some ⟨g,0,none⟩) R.length c] w fun e w'=>e = .returned (.int .i64 ((if R=[] then 0 else n:Nat):Int))∧w=w':=by
 rcases R with _ | ⟨r,R⟩
 ·go_enter Tryz.func159,Tryz.ntmps159
  go_wp2
  go_ret;exact⟨rfl,rfl⟩
 ·have hck:=hM.cellRow (i:=0) (r:=r) rfl
  have hl:((((r::R).length:Nat):Int)==0)=false:=by simp;omega
  unfold jZ at hck
  have hpos:0<(r::R).length:=by simp
  clear hM;generalize (r::R).length=m at *;go_enter Tryz.func159,Tryz.ntmps159
  go_wp2
  go_ret;exact⟨rfl,rfl⟩
def kD (R:List jr) (i j:Nat):Rat:=((R[i]?.map (·.2.2)).getD [])[j]?.getD 0
theorem Zb {R:List jr} {i j:Nat} {r:jr} (hr:R[i]? =some r):kD R i j=r.2.2[j]?.getD 0:=by unfold kD;rw[hr];rfl
def Qu (R:List jr) (t a c:Nat):Prop:=∀j,a≤j→j<c → ∀i,t≤i→i<R.length→kD R i j=0
def Wv (R:List jr) (n top from_:Nat) (w:World) (e:Ending) (w':World):Prop:=
 Below w.heap.size w w'∧((∃i j:Nat,e = .returned (.tuple #[.int .i64 i,.int .i64 j,.bool true])∧top≤i∧i<R.length∧from_≤j∧j<n∧kD R i j≠0∧(∀k,top≤k→k<i→kD R k j=0)∧Qu R top from_ j)
  ∨ (∃i j:Int,e = .returned (.tuple #[.int .i64 i,.int .i64 j,.bool false])∧Qu R top from_ n))
theorem Aj (g c n:Nat) (R:List jr) (w:World) (top from_:Nat) (hM:j8 w g R n) (hR:R≠[]) (hc:R.length≤c) (hc2:c≤1000000) (ht:top≤R.length) (hf:from_≤n) (hn:n≤1000000):
  Calls Tryz.prog 201 #[.iface 172 (.agg #[]),.slice (some ⟨g,0,none⟩) R.length c,.int .i64 top,.int .i64 from_] w (Wv R n top from_ w):=by
 have hZ:=Zo;have hZn:=WL
 have hmf:∀(fn:Fn) (first cap:Array Value) (w:World),(Instr.makeFunc fn first cap).run Tryz.prog w = .ok (.func fn first cap) w:=fun _ _ _ _=>rfl
 have HW:=hid (fun W (h:j8 W g R n)=>by have:=Qp g c n R W h;rw[if_neg hR] at this;exact this);have HR:=hid hR;have HM:=hid hM;clear hR hM;go_enter Tryz.func201,Tryz.ntmps201
 go_wp2_with fail
 go_step3
 go_wp2_with fail
 try go_step3
 try go_wp2_with fail
 go_loopg [8,9,10] (n-from_) (fun gh r j f wr=>∃(rr:Int) (k:Nat),r = .int .i64 rr∧j = .int .i64 k∧f = .bool false∧from_≤k∧k+gh=n∧Hid (Qu R top from_ k)∧Hid (j8 wr g R n)∧Below w.heap.size w wr)
 case atStart=>exact⟨0,from_,rfl,rfl,rfl,by omega,by omega,hid (fun j h1 h2=>by omega),HM,Below.refl _ _⟩
 case round=>
  clear HM;obtain⟨rr,k,rfl,rfl,rfl,hk1,hk2,hC,hMr,hB⟩:=hrel
  cases gk with
  | zero=>
   have hkn:k=n:=by omega
   subst hkn
   go_wp2_with (go_at_call 159;refine(HW.out _ hMr.out).mono ?_;rintro e w2 ⟨rfl,rfl⟩)
   rw[Exit.noGoto_ret];go_ret3;exact⟨hB,Or.inr ⟨_,_,rfl,hC.out⟩⟩
  | succ gh=>
   have hlt:k<n:=by omega
   go_wp2_with (go_at_call 159;refine(HW.out _ hMr.out).mono ?_;rintro e w2 ⟨rfl,rfl⟩)
   go_loopg [8,10] (R.length-top) (fun h r f wx=>∃i:Nat,r = .int .i64 i∧f = .bool false∧top≤i∧i+h=R.length∧Hid (∀t,top≤t→t<i→kD R t k=0)∧Hid (j8 wx g R n)∧Hid (Below w.heap.size w wx))
   case atStart=>exact⟨top,rfl,rfl,by omega,by omega,hid (fun t h1 h2=>by omega),hMr,hid hB⟩
   case round=>
    clear hMr hB;obtain⟨i,rfl,rfl,hi1,hi2,hT,hMx,hBx⟩:=hrel
    cases gk with
    | zero=>
     have hin:¬((i:Int)<(R.length:Int)):=by omega
     have hie:i=R.length:=by omega
     have HT:=hid hT.out;rw[hie] at HT
     have Hcl:Hid (Qu R top from_ (k+1)):=hid (by
      intro j h1 h2 t h3 h4;rcases Nat.lt_or_ge j k with h5 | h5
      ·exact hC.out j h1 h5 t h3 h4
      ·have:j=k:=by omega
       subst this;exact HT.out t h3 h4)
     clear hie
     go_wp2
     go_roundg gh
     case rel=>exact⟨i,k+1,rfl,by go_num,rfl,by omega,by omega,Hcl,hMx,hBx.out⟩
     case measure=>omega
    | succ h=>
     have hin:(i:Int)<(R.length:Int):=by omega
     have hil:i<R.length:=by omega
     obtain⟨r,hr⟩:∃r,R[i]? =some r:=⟨R[i],List.getElem?_eq_getElem hil⟩
     have hc1:=hMx.out.cellRow hr;obtain⟨⟨es,hes⟩,hrl,hcap1,hcap2⟩:=hMx.out.row r (List.mem_of_getElem? hr);obtain⟨e,B1,m1,k1,B2,m2,k2,_,hee,hrt,y0,y1,y2,_,_,_⟩:=hes.at_ (j:=k) (by omega);have hblk:=hes.own.lt;have hgl:=hMx.out.own.lt;have Hnum:=hid (Zb (j:=k) hr);unfold jZ at hc1;obtain⟨rb,rc,rl⟩:=r;obtain⟨e0,ea,eb⟩:=e
     have hea:ea = .slice B1 m1 k1∧eb = .slice B2 m2 k2:=by simpa using hee
     obtain⟨rfl,rfl⟩:=hea;unfold k8 at hrt;dsimp only at hc1 hrl hcap1 hcap2 hblk Hnum hrt y0 y1 y2;have Hrt:=hid hrt;clear hr hee hrt hes;generalize rl[k]?.getD 0=x at *
     have hkn':(k:Int)<(n:Int):=by omega
     have KS:Hid (∀z,Below wr.heap.size wr z→z.cell? ⟨g,i,none⟩=some (.slice (some ⟨rb,0,none⟩) n rc)∧z.cell? ⟨rb,k*3,none⟩=some (.bool e0)∧z.cell? ⟨rb,k*3+1,none⟩=some (.slice B1 m1 k1)∧z.cell? ⟨rb,k*3+2,none⟩=some (.slice B2 m2 k2)∧Below wr.heap.size wr z):=hid (fun z hb=>
      ⟨(hb.cell (p:=⟨g,i,none⟩) hgl).trans hc1,(hb.cell (p:=⟨rb,k*3,none⟩) hblk).trans y0,(hb.cell (p:=⟨rb,k*3+1,none⟩) hblk).trans y1,(hb.cell (p:=⟨rb,k*3+2,none⟩) hblk).trans y2,hb⟩)
     have HMr:=hid (fun (w4:World) (hb:Below wr.drew.heap.size wr.drew w4)=>(hMx.out.below (xt hb)));have HBr:=hid (fun (w4:World) (hb:Below wr.drew.heap.size wr.drew w4)=>(hBx.out.trans ((xt hb).mono hBx.out.size)))
     go_wp2
     by_cases h0:x=0
     ·have Hnext:Hid (∀t,top≤t→t<i+1→kD R t k=0):=hid (by
       intro t h1 h2;rcases Nat.lt_or_ge t i with h3 | h3
       ·exact hT.out t h1 h3
       ·have:t=i:=by omega
        subst this;rw[Hnum.out];exact h0)
      have Hde:=hid (decide_eq_true h0);clear h0
      go_region_held3 (fun z=>z.cell? ⟨g,i,none⟩=some (.slice (some ⟨rb,0,none⟩) n rc)∧z.cell? ⟨rb,k*3,none⟩=some (.bool e0)∧z.cell? ⟨rb,k*3+1,none⟩=some (.slice B1 m1 k1)∧z.cell? ⟨rb,k*3+2,none⟩=some (.slice B2 m2 k2)∧Below wr.heap.size wr z)
       (first | exact KS.out _ (Below.refl _ _).drew | exact KS.out _ (xt HB4.out))
       (first | (go_at_call 314;refine(KV _ x _ (Hrt.out.below (Below.refl _ _).drew)).mono ?_;rintro e w4 ⟨rfl,hB4⟩;rw[Hde.out];have HB4:=hid hB4;clear hB4))
      all_goals (
       have HM4:=hid (HMr.out _ HB4.out);have HB5:=hid (HBr.out _ HB4.out);clear HB4 KS HMr HBr hMx hBx
       go_wp2
       go_roundg h
       case rel=>exact⟨i+1,by go_num,rfl,by omega,by omega,Hnext,HM4,HB5⟩
       case measure=>omega)
     ·have Hx:Hid (kD R i k≠0):=hid (by rw[Hnum.out];exact h0)
      have Hde:=hid (decide_eq_false h0);clear h0
      go_region_held3 (fun z=>z.cell? ⟨g,i,none⟩=some (.slice (some ⟨rb,0,none⟩) n rc)∧z.cell? ⟨rb,k*3,none⟩=some (.bool e0)∧z.cell? ⟨rb,k*3+1,none⟩=some (.slice B1 m1 k1)∧z.cell? ⟨rb,k*3+2,none⟩=some (.slice B2 m2 k2)∧Below wr.heap.size wr z)
       (first | exact KS.out _ (Below.refl _ _).drew | exact KS.out _ (xt HB4.out))
       (first | (go_at_call 314;refine(KV _ x _ (Hrt.out.below (Below.refl _ _).drew)).mono ?_;rintro e w4 ⟨rfl,hB4⟩;rw[Hde.out];have HB4:=hid hB4;clear hB4))
      all_goals (
       have HB5:=hid (HBr.out _ HB4.out);clear HB4 KS HMr HBr hMx hBx
       go_wp2
       rw[Exit.noGoto_ret];go_ret3
       exact⟨HB5.out,Or.inl ⟨i,k,rfl,hi1,hil,hk1,hlt,Hx.out,fun t h1 h2=>hT.out t h1 h2,hC.out⟩⟩)
