/- Contracts of the reference: the quotient of two integers, of which the second is negative. -/
import Derived.Test.YteagkgagdelklaaGreatDoorZT33
set_option maxRecDepth 100000
set_option maxHeartbeats 16000000
namespace Go.Proofs.YteagkgagdelklaaGreatDoor
open Go.RowKit Go.Lib
theorem DZ (u v:Value) (x:Int) (y:Nat) (w:World) (hx:Ri w u (-x)) (hy:Ri w v (-(y:Int))) (h0:0<y) (bx:jQ x.natAbs) (by_:jQ y):
  Calls Tryz.prog 135 #[u,v] w (qh (jh ((x:Rat)/((y:Int):Rat))) w):=by
 obtain⟨g,n1,d1,q1,q2,q3,q4,q5,q6,q7,q8,q9,q10⟩:=UM x y h0;rw[KV,q10]
 have hng:x.natAbs/g=n1:=by
  have h:=congrArg Int.natAbs q8;rw[K2,Int.natAbs_tdiv] at h
  have h3:x.natAbs.div g=n1:=by simpa using h
  exact h3
 have hyn:decide ((y:Int)<0)=false:=Qat (by omega);have hyn2:decide (-(y:Int)<0)=true:=QaK (by omega)
 have hpos:decide (x<0)=true→0<n1:=fun h=>q9 (QaL h)
 have HT:=hid (ZC (neg:=decide (x<0)) (n:=n1) hpos);have BN:=Xn (bx.le q7);have BD:=Xn (by_.le q5);have HG:=hid q1;have HNG:=hid hng;have HDG:=hid q4;have HG0:=hid q2;have HD1:=hid q6;have HBX:=hid bx;have HBY:=hid by_;have H0:=hid h0;have HYN:=hid hyn;have hx1:=hx;have hy1:=hy;obtain⟨A,n,c,rfl,_,_⟩:=hx1.open_;obtain⟨B,m,d,rfl,_,_⟩:=hy1.open_;generalize hbx:decide (-x<0)=bx0 at *;rw[hyn2] at hy hy1 ⊢;have hO1:ja ((w.alloc (.cells #[.bool bx0,.slice A n c] 178)).alloc (.cells #[.bool true,.slice B m d] 178)) w.heap.size 178 [.bool bx0,.slice A n c]:=(ja.make w _ [.bool bx0,.slice A n c]).alloc _;have hO2:ja ((w.alloc (.cells #[.bool bx0,.slice A n c] 178)).alloc (.cells #[.bool true,.slice B m d] 178)) (w.heap.size+1) 178 [.bool true,.slice B m d]:=QJ;have hB0:Below w.heap.size w ((w.alloc (.cells #[.bool bx0,.slice A n c] 178)).alloc (.cells #[.bool true,.slice B m d] 178)):=((Below.refl _ _).alloc (Nat.le_refl _) _).alloc (by simp) _
 obtain⟨W0,hW0⟩:∃W0,W0=(w.alloc (.cells #[.bool bx0,.slice A n c] 178)).alloc (.cells #[.bool true,.slice B m d] 178):=⟨_,rfl⟩
 have hs0:W0.heap.size=w.heap.size+1+1:=by rw[hW0];simp
 rw[←hW0] at hO1 hO2 hB0;have HX0:=hid (hx.below hB0);have HY0:=hid (hy.below hB0)
 have hp1:w.heap.size<W0.heap.size:=by omega
 have hp2:w.heap.size+1<W0.heap.size:=by omega
 have KS:Hid (∀z,Below W0.heap.size W0 z→(z.cell? ⟨w.heap.size,0,none⟩=some (.bool bx0)∧z.cell? ⟨w.heap.size,1,none⟩=some (.slice A n c)∧z.cell? ⟨w.heap.size+1,0,none⟩=some (.bool true)∧z.cell? ⟨w.heap.size+1,1,none⟩=some (.slice B m d))∧(z.frozen? ⟨w.heap.size,0,none⟩=false∧z.frozen? ⟨w.heap.size,1,none⟩=false∧z.frozen? ⟨w.heap.size+1,0,none⟩=false∧z.frozen? ⟨w.heap.size+1,1,none⟩=false)∧Below W0.heap.size W0 z):=hid (fun z hb=>by
  have k1:=hO1.below hb hp1;have k2:=hO2.below hb hp2
  exact⟨⟨k1.cell 0,k1.cell 1,k2.cell 0,k2.cell 1⟩,⟨k1.free 0,k1.free 1,k2.free 0,k2.free 1⟩,hb⟩)
 have KT:=hid (fun (z z':World) (hb:Below z.heap.size z z') (h5:Below W0.heap.size W0 z)=>KS.out z' (h5.trans (hb.mono h5.size)));have KO:=hid (fun (z:World) (hb:Below W0.heap.size W0 z)=>And.intro (hO1.below hb hp1) (hO2.below hb hp2));have MN:=hid (fun (z:World) (hb:Below W0.heap.size W0 z)=>Mu _ (-x) z (HX0.out.below hb));have MD:=hid (fun (z:World) (hb:Below W0.heap.size W0 z)=>Mu _ (-(y:Int)) z (HY0.out.below hb));have HB0:=hid hB0;have hb9:Below W0.heap.size W0 W0.drew:=(Below.refl _ _).drew;have hS9:=KS.out W0.drew hb9;clear hx hy hx1 hy1 hO1 hO2 hB0 q1 q2 q3 q4 q5 q6 q7 q8 q9 q10 hng hpos h0 bx by_ hyn hyn2 hs0;go_enter Tryz.func135,Tryz.ntmps135
 go_upto_region 2 with fail
 rw[←hW0];clear hW0;obtain⟨⟨e1,e2,e3,e4⟩,⟨e5,e6,e7,e8⟩,_⟩:=hS9
 go_region_with (first
  | (go_at_call 167;refine(MN.out _ (by first | exact HBW.out | exact hb9)).mono ?_;rintro e w1 ⟨v1,rfl,r1,hB1⟩;have hS1:=KT.out _ _ hB1 (by first | exact HBW.out | exact hb9);obtain⟨A1,m1,c1,rfl,_,_⟩:=r1.open_;have HN1:=hid r1;(try replace HD1':=hid (HD1'.out.below hB1));obtain⟨⟨e1,e2,e3,e4⟩,⟨e5,e6,e7,e8⟩,e9⟩:=hS1;have HBW:=hid e9;clear r1 hB1 e9)
  | (go_at_call 167;refine(MD.out _ (by first | exact HBW.out | exact hb9)).mono ?_;rintro e w1 ⟨v2,rfl,r2,hB2⟩;have hS2:=KT.out _ _ hB2 (by first | exact HBW.out | exact hb9);obtain⟨A2,m2,c2,rfl,_,_⟩:=r2.open_;have HD1':=hid r2;(try replace HN1:=hid (HN1.out.below hB2));obtain⟨⟨e1,e2,e3,e4⟩,⟨e5,e6,e7,e8⟩,e9⟩:=hS2;have HBW:=hid e9;clear r2 hB2 e9))
 all_goals (
  have HN2:Hid (Ri w1 (.agg #[.bool (decide (x<0)),.slice A1 m1 c1]) x):=hid (by have h:=HN1.out;rw[Int.neg_neg] at h;exact h);have HD2:Hid (Ri w1 (.agg #[.bool (decide ((y:Int)<0)),.slice A2 m2 c2]) (y:Int)):=hid (by have h:=HD1'.out;rw[Int.neg_neg] at h;exact h);rw[HYN.out] at HD2;rw[HYN.out];obtain⟨k1,k2⟩:=KO.out w1 HBW.out;have k3:=k1.set2 (a':= .bool (decide (x<0))) (b':= .slice A1 m1 c1);have k4:=(k2.other (p:=⟨w.heap.size,0,none⟩) (by show w.heap.size+1≠w.heap.size;omega) (.bool (decide (x<0)))).other (p:=⟨w.heap.size,1,none⟩) (by show w.heap.size+1≠w.heap.size;omega) (.slice A1 m1 c1);have k5:=k4.set2 (a':= .bool false) (b':= .slice A2 m2 c2);have k6:=(k3.other (p:=⟨w.heap.size+1,0,none⟩) (by show w.heap.size≠w.heap.size+1;omega) (.bool false)).other (p:=⟨w.heap.size+1,1,none⟩) (by show w.heap.size≠w.heap.size+1;omega) (.slice A2 m2 c2);have r5:=(HN2.out.put2 (a':= .bool (decide (x<0))) (b':= .slice A1 m1 c1) k1 (ju _) (jr _ _ _) (ju _)).put2 (a':= .bool false) (b':= .slice A2 m2 c2) k4 (ju _) (jr _ _ _) (ju _);have r6:=(HD2.out.put2 (a':= .bool (decide (x<0))) (b':= .slice A1 m1 c1) k1 (ju _) (jr _ _ _) (ju _)).put2 (a':= .bool false) (b':= .slice A2 m2 c2) k4 (ju _) (jr _ _ _) (ju _)
  have hbz:Below w.heap.size w ((((w1.setCell ⟨w.heap.size,0,none⟩ (.bool (decide (x<0)))).setCell ⟨w.heap.size,1,none⟩ (.slice A1 m1 c1)).setCell ⟨w.heap.size+1,0,none⟩ (.bool false)).setCell ⟨w.heap.size+1,1,none⟩ (.slice A2 m2 c2)):=
   ((((HB0.out.trans (HBW.out.mono HB0.out.size)).setCell (p:=⟨w.heap.size,0,none⟩) (Nat.le_refl _) _).setCell (p:=⟨w.heap.size,1,none⟩) (Nat.le_refl _) _).setCell (p:=⟨w.heap.size+1,0,none⟩) (Nat.le_succ _) _).setCell (p:=⟨w.heap.size+1,1,none⟩) (Nat.le_succ _) _
  obtain⟨z9,hz9⟩:∃z9,z9=(((w1.setCell ⟨w.heap.size,0,none⟩ (.bool (decide (x<0)))).setCell ⟨w.heap.size,1,none⟩ (.slice A1 m1 c1)).setCell ⟨w.heap.size+1,0,none⟩ (.bool false)).setCell ⟨w.heap.size+1,1,none⟩ (.slice A2 m2 c2):=⟨_,rfl⟩
  rw[←hz9] at k5 k6 r5 r6 hbz ⊢;obtain⟨dv5,he5,hd5⟩:=r5.dg;obtain⟨dv6,he6,hd6⟩:=r6.dg;rw[QaO] at hd6
  have HX9:Hid (Dg z9 (.slice A1 m1 c1) x.natAbs):=hid (by
   have e:dv5 = .slice A1 m1 c1:=by simpa using he5.symm
   rw[←e];exact hd5)
  have HY9:Hid (Dg z9 (.slice A2 m2 c2) y):=hid (by
   have e:dv6 = .slice A2 m2 c2:=by
    have h2:=he6;simp at h2;exact h2.symm
   rw[←e];exact hd6)
  have HO1:=hid k6;have HO2:=hid k5;have HB9:=hid hbz;clear k1 k2 k3 k4 k5 k6 r5 r6 hbz hz9 he5 hd5 he6 hd6 HN1 HD1' HN2 HD2 KS KT KO MN MD HX0 HY0 HB0 hb9 HBW e1 e2 e3 e4 e5 e6 e7 e8;generalize decide (x<0)=nx at *;obtain⟨a0,a1⟩:=HO1.out.cell2;obtain⟨b0,b1⟩:=HO2.out.cell2
  go_wp2_with fail
  refine(Y4 _ _ _ _ z9 HX9.out HY9.out HBX.out HBY.out).mono ?_;rintro e w1 ⟨gv,rfl,hg,hB1⟩;rw[HG.out] at hg;have HG1:=hid hg;have HB1:=hid (HB9.out.trans (hB1.mono HB9.out.size));have HX1:=hid (HX9.out.below hB1);have HY1:=hid (HY9.out.below hB1);replace HO1:=hid (HO1.out.below hB1 HO1.out.lt);replace HO2:=hid (HO2.out.below hB1 HO2.out.lt);clear a0 a1 b0 b1;obtain⟨a0,a1⟩:=HO1.out.cell2;obtain⟨b0,b1⟩:=HO2.out.cell2;obtain⟨GA,gn,gc,rfl,_⟩:=hg.size_;clear hg hB1
  go_wp2_with fail
  refine(Qo _ _ x.natAbs g w1 HX1.out HG1.out HG0.out HBX.out).mono ?_;rintro e w2 ⟨pv,rv,rfl,hp,hr,hB2⟩;rw[HNG.out] at hp;replace HB1:=hid (HB1.out.trans (hB2.mono HB1.out.size));replace HY1:=hid (HY1.out.below hB2);replace HG1:=hid (HG1.out.below hB2);replace HO1:=hid (HO1.out.below hB2 HO1.out.lt);replace HO2:=hid (HO2.out.below hB2 HO2.out.lt);clear a0 a1 b0 b1;obtain⟨a0,a1⟩:=HO1.out.cell2;obtain⟨b0,b1⟩:=HO2.out.cell2;have HP:=hid hp;obtain⟨PA,pn,pc,rfl,_⟩:=hp.size_;obtain⟨RA,rn,rc,rfl,_⟩:=hr.size_;clear hp hr hB2 HX1
  go_wp2_with fail
  refine(Qo _ _ y g w2 HY1.out HG1.out HG0.out HBY.out).mono ?_;rintro e w3 ⟨qv,rv,rfl,hq,hr,hB3⟩;rw[HDG.out] at hq;replace HB1:=hid (HB1.out.trans (hB3.mono HB1.out.size));replace HP:=hid (HP.out.below hB3);replace HO1:=hid (HO1.out.below hB3 HO1.out.lt);replace HO2:=hid (HO2.out.below hB3 HO2.out.lt);clear a0 a1 b0 b1;obtain⟨a0,a1⟩:=HO1.out.cell2;obtain⟨b0,b1⟩:=HO2.out.cell2;have HQ:=hid hq;obtain⟨QA,qn,qc,rfl,_⟩:=hq.size_;obtain⟨SA,sn,sc,rfl,_⟩:=hr.size_;clear hq hr hB3 HY1 HG1;obtain⟨ws,hw1,hw2,hw3,hw4⟩:=HP.out;have SG:=hid (xR nx _ ws w3 hw2 hw4);rw[hw1] at SG;clear hw1 hw2 hw3 hw4 HP
  go_wp2_with fail
  refine SG.out.mono ?_;rintro e w4 ⟨sv,rfl,hs,hB4⟩;replace HB1:=hid (HB1.out.trans (hB4.mono HB1.out.size));replace HQ:=hid (HQ.out.below hB4);replace HO1:=hid (HO1.out.below hB4 HO1.out.lt);replace HO2:=hid (HO2.out.below hB4 HO2.out.lt);clear a0 a1 b0 b1;obtain⟨a0,a1⟩:=HO1.out.cell2;obtain⟨b0,b1⟩:=HO2.out.cell2;have TX:=hid (K6 sv _ w4 hs);obtain⟨TA,tn,tc,rfl,_,_⟩:=hs.open_;rw[HT.out] at TX;clear hs hB4 SG
  go_wp2_with fail
  refine TX.out.mono ?_;rintro e w5 ⟨rfl,hB5⟩;replace HB1:=hid (HB1.out.trans (hB5.mono HB1.out.size));replace HQ:=hid (HQ.out.below hB5);replace HO1:=hid (HO1.out.below hB5 HO1.out.lt);replace HO2:=hid (HO2.out.below hB5 HO2.out.lt);clear a0 a1 b0 b1;obtain⟨a0,a1⟩:=HO1.out.cell2;obtain⟨b0,b1⟩:=HO2.out.cell2;clear hB5 TX
  have hln:((if nx=true then [45] else [])++decDigits n1:List UInt8).length≤9000002:=by
   rw[Qaf];cases nx <;> simp <;> omega
  have HTT:Hid (∀l,xa nx n1 d1=l↔((if nx=true then [45] else [])++decDigits n1)++(if d1=1 then [] else 47::decDigits d1)=l):=hid (fun l=>Iff.rfl);generalize ((if nx=true then [45] else [])++decDigits n1:List UInt8)=tx at *;by_cases h1:d1=1
  ·have HE:Hid (xa nx n1 d1=tx):=hid ((HTT.out tx).2 (by rw[if_pos h1,Qbg]))
   subst h1;obtain⟨qb,qo,qc2,hqe,hqb,hqc⟩:=HQ.out.one (by decide) (by decide)
   obtain⟨rfl,rfl,rfl⟩:QA=some ⟨qb,qo,none⟩∧qn=1∧qc=qc2:=by simpa using hqe
   clear HTT hqe HT
   go_wp2
   go_ret;exact⟨by rw[HE.out];rfl,HB1.out⟩
  ·have HE:Hid (xa nx n1 d1=tx++47::decDigits d1):=hid ((HTT.out _).2 (by rw[if_neg h1]))
   have HQN:=hid (Yr HQ.out HD1.out h1);obtain⟨ws2,hw1,hw2,hw3,hw4⟩:=HQ.out;have SG2:=hid (xR false _ ws2 w5 hw2 hw4);rw[hw1] at SG2;clear hw1 hw2 hw3 hw4 HTT HT h1;have HTE:=hid (WI d1)
   rcases HQN.out with ⟨A9,n9,c9,hqe,hqn,hql⟩ | ⟨qb,qo,qc2,hqe,hqb,hqc,hqv⟩
   ·obtain⟨rfl,rfl,rfl⟩:QA=A9∧qn=n9∧qc=c9:=by simpa using hqe
    clear HQN hqe
    go_wp2_with fail
    refine SG2.out.mono ?_;rintro e w6 ⟨sv,rfl,hs,hB6⟩;have TX:=hid (K6 sv _ w6 hs);rw[HTE.out] at TX;obtain⟨TA2,tn2,tc2,rfl,_,_⟩:=hs.open_;replace HB1:=hid (HB1.out.trans (hB6.mono HB1.out.size));clear hs hB6 SG2
    go_wp2_with fail
    refine TX.out.mono ?_;rintro e w7 ⟨rfl,hB7⟩;replace HB1:=hid (HB1.out.trans (hB7.mono HB1.out.size));clear hB7 TX
    go_wp2
    go_ret;exact⟨by rw[HE.out];exact XT tx d1,HB1.out⟩
   ·obtain⟨rfl,rfl,rfl⟩:QA=some ⟨qb,qo,none⟩∧qn=1∧qc=qc2:=by simpa using hqe
    clear HQN hqe
    go_wp2_with fail
    refine SG2.out.mono ?_;rintro e w6 ⟨sv,rfl,hs,hB6⟩;have TX:=hid (K6 sv _ w6 hs);rw[HTE.out] at TX;obtain⟨TA2,tn2,tc2,rfl,_,_⟩:=hs.open_;replace HB1:=hid (HB1.out.trans (hB6.mono HB1.out.size));clear hs hB6 SG2
    go_wp2_with fail
    refine TX.out.mono ?_;rintro e w7 ⟨rfl,hB7⟩;replace HB1:=hid (HB1.out.trans (hB7.mono HB1.out.size));clear hB7 TX
    go_wp2
    go_ret
    exact⟨by rw[HE.out];exact XT tx d1,HB1.out⟩)
