/- Contracts of the reference: quotients, common divisors. -/
import Derived.Test.YteagkgagdelklaaGreatDoorZT29
set_option maxRecDepth 100000
set_option maxHeartbeats 8000000
namespace Go.Proofs.YteagkgagdelklaaGreatDoor
open Go.RowKit Go.Lib
theorem Qo (v u:Value) (x y:Nat) (w:World) (hv:Dg w v x) (hu:Dg w u y) (h0:0<y) (hx:jQ x):
  Calls Tryz.prog 156 #[v,u] w (Qq x y w):=by
 rcases Qae x y with h | h
 ·exact NQ v u x y w hv hu h
 ·rcases Qae y B9 with h1 | h1
  ·exact NL v u x y w hv hu h h0 h1 hx
  ·exact NK v u x y w hv hu h h1 hx
theorem Dg.zero_ {w:World} {v:Value} (h:Dg w v 0):∃A c,v = .slice A 0 c:=by
 obtain⟨p,A,c,rfl,e1,o1,n1,l1,l2,s1⟩:=h.open_;obtain rfl:=(Vr n1).1 e1;exact⟨A,c,rfl⟩
theorem Dg.pos_ {w:World} {v:Value} {x:Nat} (h:Dg w v x) (h0:0<x):∃A n c,v = .slice A n c∧(0:Int)<(n:Int)∧n≤140737488355328:=by
 obtain⟨p,A,c,rfl,e1,o1,n1,l1,l2,s1⟩:=h.open_;refine⟨A,p.length,c,rfl,?_,l2⟩;rcases QaA p.length with h1 | h1
 ·have:=List.length_eq_zero_iff.1 h1
  subst this;simp[jb] at e1;omega
 ·omega
theorem Y4 (v u:Value) (x y:Nat) (w:World) (hv:Dg w v x) (hu:Dg w u y) (hx:jQ x) (hy:jQ y):
  Calls Tryz.prog 121 #[v,u] w (XD (Nat.gcd x y) w):=by
 have HV:=hid hv;have HU:=hid hu;have HX:=hid hx;have HY:=hid hy;obtain⟨A,n,c,rfl,_⟩:=hv.size_;obtain⟨B,m,d,rfl,_⟩:=hu.size_;clear hv hu hx hy;go_enter Tryz.func121,Tryz.ntmps121
 go_wp2_with fail
 go_loopg [0,1,5,6] y (fun g a b _ _ wr=>∃x':Nat,Hid (Dg wr a x')∧Hid (Dg wr b g)∧Hid (Nat.gcd x' g=Nat.gcd x y)∧Hid (jQ x')∧Hid (jQ g)∧Hid (Below w.heap.size w wr))
 case atStart=>exact⟨x,HV,HU,hid rfl,HX,HY,hid (Below.refl _ _)⟩
 case round=>
  clear HV HU HX HY;obtain⟨x',hA,hB,hG,hX,hY,hBl⟩:=hrel;obtain⟨A2,n2,c2,rfl,_⟩:=hA.out.size_
  cases gk with
  | zero=>
   obtain⟨B2,d2,rfl⟩:=hB.out.zero_;have HD:Hid (Dg wr (.slice A2 n2 c2) (Nat.gcd x y)):=hid (by rw[←hG.out,Qcg];exact hA.out);clear hG
   go_wp2
   go_ret;exact⟨_,rfl,HD.out,hBl.out⟩
  | succ g=>
   obtain⟨B2,m2,d2,rfl,hm2,_⟩:=hB.out.pos_ (Nat.succ_pos g);have DV:=hid (Qo _ _ x' (g+1) wr hA.out hB.out (Nat.succ_pos g) hX.out);have HLT:Hid (x'%(g+1)<g+1):=hid (QaI _ (Nat.succ_pos g));have HG2:Hid (Nat.gcd (g+1) (x'%(g+1))=Nat.gcd x y):=hid (by rw[←hG.out,Qbb x',Qcp (g+1) x',Qbb])
   go_wp2_with fail
   refine DV.out.mono ?_;rintro e w2 ⟨q,r,rfl,hq,hr,hB2⟩;obtain⟨QA,qn,qc,rfl,_⟩:=hq.size_;obtain⟨RA,rn,rc,rfl,_⟩:=hr.size_;have HR:=hid hr;have HB2:=hid (hB.out.below hB2);have HBL:=hid (hBl.out.trans (hB2.mono hBl.out.size));have HXR:Hid (jQ (x'%(g+1))):=hid (hX.out.le (Nat.mod_le _ _));clear hq hr hB2 DV hG hA hB hBl;generalize x'%(g+1)=rr at *
   go_wp2
   go_roundg rr
   case rel=>exact⟨g+1,HB2,HR,HG2,hY,HXR,HBL⟩
   case measure=>exact HLT.out
theorem ja.cell2 {w:World} {g:Nat} {t:TypeId} {a b:Value} (h:ja w g t [a,b]):w.cell? ⟨g,0,none⟩=some a∧w.cell? ⟨g,1,none⟩=some b:=⟨h.cell 0,h.cell 1⟩
theorem XT (tx:List UInt8) (d1:Nat):Ending.returned (.string (ByteArray.mk tx.toArray++ByteArray.mk #[47]++ByteArray.mk (decDigits d1).toArray)) = .returned (.string ⟨(tx++47::decDigits d1).toArray⟩):=by
 rw[ByteArray.mk_append_mk,ByteArray.mk_append_mk]
 congr 3
 simp
theorem Zy (u v:Value) (x:Int) (y:Nat) (w:World) (hx:Ri w u x) (hy:Ri w v (y:Int)) (h0:0<y) (bx:jQ x.natAbs) (by_:jQ y):
  Calls Tryz.prog 135 #[u,v] w (qh (jh ((x:Rat)/((y:Int):Rat))) w):=by
 obtain⟨g,n1,d1,q1,q2,q3,q4,q5,q6,q7,q8,q9,q10⟩:=UM x y h0;rw[KV,q10]
 have hng:x.natAbs/g=n1:=by
  have h:=congrArg Int.natAbs q8;rw[K2,Int.natAbs_tdiv] at h
  have h3:x.natAbs.div g=n1:=by simpa using h
  exact h3
 obtain⟨dx,rfl,hdx⟩:=hx.dg;obtain⟨dy,rfl,hdy⟩:=hy.dg;have hyn:decide ((y:Int)<0)=false:=Qat (by omega);rw[hyn];rw[QaO] at hdy
 have hpos:decide (x<0)=true→0<n1:=fun h=>q9 (QaL h)
 have HT:=hid (ZC (neg:=decide (x<0)) (n:=n1) hpos);have BN:=Xn (bx.le q7);have BD:=Xn (by_.le q5);have HG:=hid q1;have HNG:=hid hng;have HDG:=hid q4;have HG0:=hid q2;have HD1:=hid q6;have HBX:=hid bx;have HBY:=hid by_;have H0:=hid h0;generalize decide (x<0)=nx at *;obtain⟨A,n,c,rfl,_⟩:=hdx.size_;obtain⟨B,m,d,rfl,_⟩:=hdy.size_;have hO1:ja ((w.alloc (.cells #[.bool nx,.slice A n c] 178)).alloc (.cells #[.bool false,.slice B m d] 178)) w.heap.size 178 [.bool nx,.slice A n c]:=(ja.make w _ [.bool nx,.slice A n c]).alloc _;have hO2:ja ((w.alloc (.cells #[.bool nx,.slice A n c] 178)).alloc (.cells #[.bool false,.slice B m d] 178)) (w.heap.size+1) 178 [.bool false,.slice B m d]:=QJ;have hB0:Below w.heap.size w ((w.alloc (.cells #[.bool nx,.slice A n c] 178)).alloc (.cells #[.bool false,.slice B m d] 178)):=((Below.refl _ _).alloc (Nat.le_refl _) _).alloc (by simp) _
 obtain⟨W0,hW0⟩:∃W0,W0=(w.alloc (.cells #[.bool nx,.slice A n c] 178)).alloc (.cells #[.bool false,.slice B m d] 178):=⟨_,rfl⟩
 rw[←hW0] at hO1 hO2 hB0;have HX0:=hid (hdx.below hB0);have HY0:=hid (hdy.below hB0);have HB0:=hid hB0;have HO1:=hid hO1;have HO2:=hid hO2;obtain⟨a0,a1⟩:=hO1.cell2;obtain⟨b0,b1⟩:=hO2.cell2;clear hx hy hdx hdy hO1 hO2 hB0 q1 q2 q3 q4 q5 q6 q7 q8 q9 q10 hng hpos h0 bx by_ hyn;go_enter Tryz.func135,Tryz.ntmps135
 go_upto_region 1 with fail
 rw[←hW0];clear hW0
 go_wp2_with fail
 refine(Y4 _ _ _ _ W0 HX0.out HY0.out HBX.out HBY.out).mono ?_;rintro e w1 ⟨gv,rfl,hg,hB1⟩;rw[HG.out] at hg;have HG1:=hid hg;have HB1:=hid (HB0.out.trans (hB1.mono HB0.out.size));have HX1:=hid (HX0.out.below hB1);have HY1:=hid (HY0.out.below hB1);replace HO1:=hid (HO1.out.below hB1 HO1.out.lt);replace HO2:=hid (HO2.out.below hB1 HO2.out.lt);clear a0 a1 b0 b1;obtain⟨a0,a1⟩:=HO1.out.cell2;obtain⟨b0,b1⟩:=HO2.out.cell2;obtain⟨GA,gn,gc,rfl,_⟩:=hg.size_;clear hg hB1
 go_wp2_with fail
 refine(Qo _ _ x.natAbs g w1 HX1.out HG1.out HG0.out HBX.out).mono ?_;rintro e w2 ⟨pv,rv,rfl,hp,hr,hB2⟩;rw[HNG.out] at hp;replace HB1:=hid (HB1.out.trans (hB2.mono HB1.out.size));replace HY1:=hid (HY1.out.below hB2);replace HG1:=hid (HG1.out.below hB2);replace HO1:=hid (HO1.out.below hB2 HO1.out.lt);replace HO2:=hid (HO2.out.below hB2 HO2.out.lt);clear a0 a1 b0 b1;obtain⟨a0,a1⟩:=HO1.out.cell2;obtain⟨b0,b1⟩:=HO2.out.cell2;have HP:=hid hp;obtain⟨PA,pn,pc,rfl,_⟩:=hp.size_;obtain⟨RA,rn,rc,rfl,_⟩:=hr.size_;clear hp hr hB2 HX1
 go_wp2_with fail
 refine(Qo _ _ y g w2 HY1.out HG1.out HG0.out HBY.out).mono ?_;rintro e w3 ⟨qv,rv,rfl,hq,hr,hB3⟩;rw[HDG.out] at hq;replace HB1:=hid (HB1.out.trans (hB3.mono HB1.out.size));replace HP:=hid (HP.out.below hB3);replace HO1:=hid (HO1.out.below hB3 HO1.out.lt);replace HO2:=hid (HO2.out.below hB3 HO2.out.lt);clear a0 a1 b0 b1;obtain⟨a0,a1⟩:=HO1.out.cell2;obtain⟨b0,b1⟩:=HO2.out.cell2;have HQ:=hid hq;obtain⟨QA,qn,qc,rfl,_⟩:=hq.size_;obtain⟨SA,sn,sc,rfl,_⟩:=hr.size_;clear hq hr hB3 HY1 HG1;obtain⟨ws,hw1,hw2,hw3,hw4⟩:=HP.out;have SG:=hid (xR nx _ ws w3 hw2 hw4);rw[hw1] at SG;clear hw1 hw2 hw3 hw4 HP
 go_wp2_with fail
 refine SG.out.mono ?_;rintro e w4 ⟨sv,rfl,hs,hB4⟩;replace HB1:=hid (HB1.out.trans (hB4.mono HB1.out.size));replace HQ:=hid (HQ.out.below hB4);replace HO1:=hid (HO1.out.below hB4 HO1.out.lt);replace HO2:=hid (HO2.out.below hB4 HO2.out.lt);clear a0 a1 b0 b1;obtain⟨a0,a1⟩:=HO1.out.cell2;obtain⟨b0,b1⟩:=HO2.out.cell2;have TX:=hid (K6 sv _ w4 hs);obtain⟨TA,tn,tc,rfl,_,_⟩:=hs.open_;rw[HT.out] at TX;clear hs hB4 SG
 go_wp2_with fail
 refine TX.out.mono ?_;rintro e w5 ⟨rfl,hB5⟩;replace HB1:=hid (HB1.out.trans (hB5.mono HB1.out.size));replace HQ:=hid (HQ.out.below hB5);replace HO1:=hid (HO1.out.below hB5 HO1.out.lt);replace HO2:=hid (HO2.out.below hB5 HO2.out.lt);clear a0 a1 b0 b1;obtain⟨a0,a1⟩:=HO1.out.cell2;obtain⟨b0,b1⟩:=HO2.out.cell2;clear hB5 TX
 have hln:((if nx=true then [45] else [])++decDigits n1:List UInt8).length≤9000002:=by
  rw[Qaf];cases nx <;> simp <;> omega
 have HTT:Hid (∀l,xa nx n1 d1=l↔((if nx=true then [45] else [])++decDigits n1)++(if d1=1 then [] else 47::decDigits d1)=l):=hid (fun l=>Iff.rfl);generalize ((if nx=true then [45] else [])++decDigits n1:List UInt8)=tx at *;by_cases h1:d1=1
 ·have HE:Hid (xa nx n1 d1=tx):=hid ((HTT.out tx).2 (by rw[if_pos h1,Qbg]))
  subst h1;obtain⟨qb,qo,qc2,hqe,hqb,hqc⟩:=HQ.out.one (by decide) (by decide)
  obtain⟨rfl,rfl,rfl⟩:QA=some ⟨qb,qo,none⟩∧qn=1∧qc=qc2:=by simpa using hqe
  clear HTT hqe HT
  go_wp2
  go_ret;exact⟨by rw[HE.out];rfl,HB1.out⟩
 ·have HE:Hid (xa nx n1 d1=tx++47::decDigits d1):=hid ((HTT.out _).2 (by rw[if_neg h1]))
  have HQN:=hid (Yr HQ.out HD1.out h1);obtain⟨ws2,hw1,hw2,hw3,hw4⟩:=HQ.out;have SG2:=hid (xR false _ ws2 w5 hw2 hw4);rw[hw1] at SG2;clear hw1 hw2 hw3 hw4 HTT HT h1;have HTE:=hid (WI d1)
  rcases HQN.out with ⟨A9,n9,c9,hqe,hqn,hql⟩ | ⟨qb,qo,qc2,hqe,hqb,hqc,hqv⟩
  ·obtain⟨rfl,rfl,rfl⟩:QA=A9∧qn=n9∧qc=c9:=by simpa using hqe
   clear HQN hqe
   go_wp2_with fail
   refine SG2.out.mono ?_;rintro e w6 ⟨sv,rfl,hs,hB6⟩;have TX:=hid (K6 sv _ w6 hs);rw[HTE.out] at TX;obtain⟨TA2,tn2,tc2,rfl,_,_⟩:=hs.open_;replace HB1:=hid (HB1.out.trans (hB6.mono HB1.out.size));clear hs hB6 SG2
   go_wp2_with fail
   refine TX.out.mono ?_;rintro e w7 ⟨rfl,hB7⟩;replace HB1:=hid (HB1.out.trans (hB7.mono HB1.out.size));clear hB7 TX
   go_wp2
   go_ret;exact⟨by rw[HE.out];exact XT tx d1,HB1.out⟩
  ·obtain⟨rfl,rfl,rfl⟩:QA=some ⟨qb,qo,none⟩∧qn=1∧qc=qc2:=by simpa using hqe
   clear HQN hqe
   go_wp2_with fail
   refine SG2.out.mono ?_;rintro e w6 ⟨sv,rfl,hs,hB6⟩;have TX:=hid (K6 sv _ w6 hs);rw[HTE.out] at TX;obtain⟨TA2,tn2,tc2,rfl,_,_⟩:=hs.open_;replace HB1:=hid (HB1.out.trans (hB6.mono HB1.out.size));clear hs hB6 SG2
   go_wp2_with fail
   refine TX.out.mono ?_;rintro e w7 ⟨rfl,hB7⟩;replace HB1:=hid (HB1.out.trans (hB7.mono HB1.out.size));clear hB7 TX
   go_wp2
   go_ret;exact⟨by rw[HE.out];exact XT tx d1,HB1.out⟩
