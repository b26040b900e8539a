/- Contracts of the reference: the quotient of two integers, of which the second is positive. -/
import Derived.Test.YtneafcdfnhnpnaaGreatDoorZK22
set_option maxRecDepth 100000
set_option maxHeartbeats 8000000
namespace Go.Proofs.YtneafcdfnhnpnaaGreatDoor
open Go.RowKit Go.Lib
theorem ja.cell2 {w:World} {g:Nat} {t:TypeId} {a b:Value} (h:ja w g t [a,b]):w.cell? ⟨g,0,none⟩=some a∧w.cell? ⟨g,1,none⟩=some b:=⟨h.cell 0,h.cell 1⟩
theorem Xc (tx:List UInt8) (d1:Nat):Ending.returned (.string (ByteArray.mk tx.toArray++ByteArray.mk #[47]++ByteArray.mk (decDigits d1).toArray)) = .returned (.string ⟨(tx++47::decDigits d1).toArray⟩):=by
 rw[ByteArray.mk_append_mk,ByteArray.mk_append_mk]
 congr 3
 simp
theorem YR (u v:Value) (x:Int) (y:Nat) (w:World) (hx:Ri w u x) (hy:Ri w v (y:Int)) (h0:0<y) (bx:jN x.natAbs) (by_:jN y):
  Calls Tryz.prog 117 #[u,v] w (kn (jg ((x:Rat)/((y:Int):Rat))) w):=by
 obtain⟨g,n1,d1,q1,q2,q3,q4,q5,q6,q7,q8,q9,q10⟩:=ZM x y h0;rw[JC,q10]
 have hng:x.natAbs/g=n1:=by
  have h:=congrArg Int.natAbs q8;rw[Kq,Int.natAbs_tdiv] at h
  have h3:x.natAbs.div g=n1:=by simpa using h
  exact h3
 obtain⟨dx,rfl,hdx⟩:=hx.dg;obtain⟨dy,rfl,hdy⟩:=hy.dg;have hyn:decide ((y:Int)<0)=false:=decide_eq_false (by omega);rw[hyn];rw[Int.natAbs_natCast] at hdy
 have hpos:decide (x<0)=true→0<n1:=fun h=>q9 (of_decide_eq_true h)
 have HT:=hid (YT (neg:=decide (x<0)) (n:=n1) hpos);have BN:=JY (bx.le q7);have BD:=JY (by_.le q5);have HG:=hid q1;have HNG:=hid hng;have HDG:=hid q4;have HG0:=hid q2;have HD1:=hid q6;have HBX:=hid bx;have HBY:=hid by_;have H0:=hid h0;generalize decide (x<0)=nx at *;obtain⟨A,n,c,rfl,_⟩:=hdx.size_;obtain⟨B,m,d,rfl,_⟩:=hdy.size_;have hO1:ja ((w.alloc (.cells #[.bool nx,.slice A n c] 127)).alloc (.cells #[.bool false,.slice B m d] 127)) w.heap.size 127 [.bool nx,.slice A n c]:=(ja.make w _ [.bool nx,.slice A n c]).alloc _;have hO2:ja ((w.alloc (.cells #[.bool nx,.slice A n c] 127)).alloc (.cells #[.bool false,.slice B m d] 127)) (w.heap.size+1) 127 [.bool false,.slice B m d]:=Qa;have hB0:Below w.heap.size w ((w.alloc (.cells #[.bool nx,.slice A n c] 127)).alloc (.cells #[.bool false,.slice B m d] 127)):=((Below.refl _ _).alloc (Nat.le_refl _) _).alloc (by simp) _
 obtain⟨W0,hW0⟩:∃W0,W0=(w.alloc (.cells #[.bool nx,.slice A n c] 127)).alloc (.cells #[.bool false,.slice B m d] 127):=⟨_,rfl⟩
 rw[←hW0] at hO1 hO2 hB0;have HX0:=hid (hdx.below hB0);have HY0:=hid (hdy.below hB0);have HB0:=hid hB0;have HO1:=hid hO1;have HO2:=hid hO2;obtain⟨a0,a1⟩:=hO1.cell2;obtain⟨b0,b1⟩:=hO2.cell2;clear hx hy hdx hdy hO1 hO2 hB0 q1 q2 q3 q4 q5 q6 q7 q8 q9 q10 hng hpos h0 bx by_ hyn;go_enter Tryz.func117,Tryz.ntmps117
 go_upto_region 1 with fail
 rw[←hW0];clear hW0
 go_wp2_with fail
 refine(Ys _ _ _ _ W0 HX0.out HY0.out HBX.out HBY.out).mono ?_;rintro e w1 ⟨gv,rfl,hg,hB1⟩;rw[HG.out] at hg;have HG1:=hid hg;have HB1:=hid (HB0.out.trans (hB1.mono HB0.out.size));have HX1:=hid (HX0.out.below hB1);have HY1:=hid (HY0.out.below hB1);replace HO1:=hid (HO1.out.below hB1 HO1.out.lt);replace HO2:=hid (HO2.out.below hB1 HO2.out.lt);clear a0 a1 b0 b1;obtain⟨a0,a1⟩:=HO1.out.cell2;obtain⟨b0,b1⟩:=HO2.out.cell2;obtain⟨GA,gn,gc,rfl,_⟩:=hg.size_;clear hg hB1
 go_wp2_with fail
 refine(J5 _ _ x.natAbs g w1 HX1.out HG1.out HG0.out HBX.out).mono ?_;rintro e w2 ⟨pv,rv,rfl,hp,hr,hB2⟩;rw[HNG.out] at hp;replace HB1:=hid (HB1.out.trans (hB2.mono HB1.out.size));replace HY1:=hid (HY1.out.below hB2);replace HG1:=hid (HG1.out.below hB2);replace HO1:=hid (HO1.out.below hB2 HO1.out.lt);replace HO2:=hid (HO2.out.below hB2 HO2.out.lt);clear a0 a1 b0 b1;obtain⟨a0,a1⟩:=HO1.out.cell2;obtain⟨b0,b1⟩:=HO2.out.cell2;have HP:=hid hp;obtain⟨PA,pn,pc,rfl,_⟩:=hp.size_;obtain⟨RA,rn,rc,rfl,_⟩:=hr.size_;clear hp hr hB2 HX1
 go_wp2_with fail
 refine(J5 _ _ y g w2 HY1.out HG1.out HG0.out HBY.out).mono ?_;rintro e w3 ⟨qv,rv,rfl,hq,hr,hB3⟩;rw[HDG.out] at hq;replace HB1:=hid (HB1.out.trans (hB3.mono HB1.out.size));replace HP:=hid (HP.out.below hB3);replace HO1:=hid (HO1.out.below hB3 HO1.out.lt);replace HO2:=hid (HO2.out.below hB3 HO2.out.lt);clear a0 a1 b0 b1;obtain⟨a0,a1⟩:=HO1.out.cell2;obtain⟨b0,b1⟩:=HO2.out.cell2;have HQ:=hid hq;obtain⟨QA,qn,qc,rfl,_⟩:=hq.size_;obtain⟨SA,sn,sc,rfl,_⟩:=hr.size_;clear hq hr hB3 HY1 HG1;obtain⟨ws,hw1,hw2,hw3,hw4⟩:=HP.out;have SG:=hid (xj nx _ ws w3 hw2 hw4);rw[hw1] at SG;clear hw1 hw2 hw3 hw4 HP
 go_wp2_with fail
 refine SG.out.mono ?_;rintro e w4 ⟨sv,rfl,hs,hB4⟩;replace HB1:=hid (HB1.out.trans (hB4.mono HB1.out.size));replace HQ:=hid (HQ.out.below hB4);replace HO1:=hid (HO1.out.below hB4 HO1.out.lt);replace HO2:=hid (HO2.out.below hB4 HO2.out.lt);clear a0 a1 b0 b1;obtain⟨a0,a1⟩:=HO1.out.cell2;obtain⟨b0,b1⟩:=HO2.out.cell2;have TX:=hid (Jf sv _ w4 hs);obtain⟨TA,tn,tc,rfl,_,_⟩:=hs.open_;rw[HT.out] at TX;clear hs hB4 SG
 go_wp2_with fail
 refine TX.out.mono ?_;rintro e w5 ⟨rfl,hB5⟩;replace HB1:=hid (HB1.out.trans (hB5.mono HB1.out.size));replace HQ:=hid (HQ.out.below hB5);replace HO1:=hid (HO1.out.below hB5 HO1.out.lt);replace HO2:=hid (HO2.out.below hB5 HO2.out.lt);clear a0 a1 b0 b1;obtain⟨a0,a1⟩:=HO1.out.cell2;obtain⟨b0,b1⟩:=HO2.out.cell2;clear hB5 TX
 have hln:((if nx=true then [45] else [])++decDigits n1:List UInt8).length≤9000002:=by
  rw[List.length_append];cases nx <;> simp <;> omega
 have HTT:Hid (∀l,qI nx n1 d1=l↔((if nx=true then [45] else [])++decDigits n1)++(if d1=1 then [] else 47::decDigits d1)=l):=hid (fun l=>Iff.rfl);generalize ((if nx=true then [45] else [])++decDigits n1:List UInt8)=tx at *;by_cases h1:d1=1
 ·have HE:Hid (qI nx n1 d1=tx):=hid ((HTT.out tx).2 (by rw[if_pos h1,List.append_nil]))
  subst h1;obtain⟨qb,qo,qc2,hqe,hqb,hqc⟩:=HQ.out.one (by decide) (by decide)
  obtain⟨rfl,rfl,rfl⟩:QA=some ⟨qb,qo,none⟩∧qn=1∧qc=qc2:=by simpa using hqe
  clear HTT hqe HT
  go_wp2
  go_ret;exact⟨by rw[HE.out];rfl,HB1.out⟩
 ·have HE:Hid (qI nx n1 d1=tx++47::decDigits d1):=hid ((HTT.out _).2 (by rw[if_neg h1]))
  have HQN:=hid (XJ HQ.out HD1.out h1);obtain⟨ws2,hw1,hw2,hw3,hw4⟩:=HQ.out;have SG2:=hid (xj false _ ws2 w5 hw2 hw4);rw[hw1] at SG2;clear hw1 hw2 hw3 hw4 HTT HT h1;have HTE:=hid (VC d1)
  rcases HQN.out with ⟨A9,n9,c9,hqe,hqn,hql⟩ | ⟨qb,qo,qc2,hqe,hqb,hqc,hqv⟩
  ·obtain⟨rfl,rfl,rfl⟩:QA=A9∧qn=n9∧qc=c9:=by simpa using hqe
   clear HQN hqe
   go_wp2_with fail
   refine SG2.out.mono ?_;rintro e w6 ⟨sv,rfl,hs,hB6⟩;have TX:=hid (Jf sv _ w6 hs);rw[HTE.out] at TX;obtain⟨TA2,tn2,tc2,rfl,_,_⟩:=hs.open_;replace HB1:=hid (HB1.out.trans (hB6.mono HB1.out.size));clear hs hB6 SG2
   go_wp2_with fail
   refine TX.out.mono ?_;rintro e w7 ⟨rfl,hB7⟩;replace HB1:=hid (HB1.out.trans (hB7.mono HB1.out.size));clear hB7 TX
   go_wp2
   go_ret;exact⟨by rw[HE.out];exact Xc tx d1,HB1.out⟩
  ·obtain⟨rfl,rfl,rfl⟩:QA=some ⟨qb,qo,none⟩∧qn=1∧qc=qc2:=by simpa using hqe
   clear HQN hqe
   go_wp2_with fail
   refine SG2.out.mono ?_;rintro e w6 ⟨sv,rfl,hs,hB6⟩;have TX:=hid (Jf sv _ w6 hs);rw[HTE.out] at TX;obtain⟨TA2,tn2,tc2,rfl,_,_⟩:=hs.open_;replace HB1:=hid (HB1.out.trans (hB6.mono HB1.out.size));clear hs hB6 SG2
   go_wp2_with fail
   refine TX.out.mono ?_;rintro e w7 ⟨rfl,hB7⟩;replace HB1:=hid (HB1.out.trans (hB7.mono HB1.out.size));clear hB7 TX
   go_wp2
   go_ret;exact⟨by rw[HE.out];exact Xc tx d1,HB1.out⟩
def yt (l:List UInt8) (m:Nat) (ws:List Nat):Prop:=jG ws∧jb ws+B9^ws.length*jf (l.take m)=jf l∧9*ws.length+m=l.length
theorem yt.start (l:List UInt8):yt l l.length []:=⟨J1,by simp[jb],by simp⟩
theorem UQ {l:List UInt8} (h:jW l) (hl:l.length≤9):jf l<B9:=by
 have h1:=qG h;have h2:10^l.length≤10^9:=Nat.pow_le_pow_right (by decide) hl;unfold B9;omega
theorem yt.step {l:List UInt8} {m:Nat} {ws:List Nat} (hd:jW l) (h:yt l (m+9) ws):yt l m (ws++[jf ((l.take (m+9)).drop m)]):=by
 obtain⟨h1,h2,h3⟩:=h
 have hl:((l.take (m+9)).drop m).length=9:=by rw[List.length_drop,List.length_take];omega
 have hs:l.take (m+9)=l.take m++(l.take (m+9)).drop m:=by
  conv=>lhs;rw[←List.take_append_drop m (l.take (m+9))]
  rw[List.take_take,Nat.min_eq_left (by omega)]
 have hv:jf (l.take (m+9))=jf (l.take m)*B9+jf ((l.take (m+9)).drop m):=by
  conv=>lhs;rw[hs]
  rw[Jr,hl]
 refine⟨J0.2 ⟨h1,Jp.2 (UQ (Yg (Jo hd _) _) (by omega))⟩,?_,by simp;omega⟩;rw[hv] at h2;rw[zV,List.length_append,List.length_singleton,Nat.pow_succ,←h2,Nat.mul_add,Nat.mul_assoc,Nat.mul_comm B9 (jf _)];omega
theorem yt.last {l:List UInt8} {m:Nat} {ws:List Nat} (hd:jW l) (h:yt l m ws) (hm:m≤9):jG (ws++[jf (l.take m)])∧jb (ws++[jf (l.take m)])=jf l:=by
 obtain⟨h1,h2,h3⟩:=h;exact⟨J0.2 ⟨h1,Jp.2 (UQ (Jo hd _) (by rw[List.length_take];omega))⟩,by rw[zV];exact h2⟩
def Wm (l:List UInt8) (base m:Nat) (w:World) (t:ByteArray) (v:Value) (wr:World):Prop:=∃ws:List Nat,t.data.toList=l.take m∧yt l m ws∧wr.ownsRow (base+1) 3 1 v ws.length (jp ws)∧ja wr base 127 [.bool false,.slice none 0 0]∧Below w.heap.size w wr
theorem yt.len {l:List UInt8} {m:Nat} {ws:List Nat} (h:yt l m ws) (hl:l.length≤9000000):ws.length≤1000000:=by have:=h.2.2;omega
theorem Wn (neg:Bool) (s t0:ByteArray) (l:List UInt8) (w:World) (h0:0<s.size) (hc:(((s[0]'h0).toNat:Int)==45)=neg) (ht:(if neg=true then s.extract 1 s.size else s)=t0) (hs:t0.data.toList=l) (hz:(s.size:Int)=t0.size+(if neg=true then 1 else 0)) (hd:jW l) (hl0:0<l.length) (hl:l.length≤9000000):
  Calls Tryz.prog 174 #[.string s] w (kN (sg neg (jf l)) w):=by
 obtain⟨i0,hi,hz0,hz1,hz2⟩:=info_parts yc
 obtain⟨N,r,hN,hr1,hr9⟩:∃N r,l.length=9*N+r∧1≤r∧r≤9:=⟨(l.length-1)/9,l.length-9*((l.length-1)/9),by omega,by omega,by omega⟩
 have hsz:t0.size=9*N+r:=by rw[←hN,←hs];simp
 have HD:=hid hd;have HLL:=hid hl;have HTE:=hid ht
 have hszI:(s.size:Int)≤9000001:=by rw[hz];split <;> omega
 have h0I:(0:Int)<(s.size:Int):=by omega
 have hneg1:neg=true→(1:Int)≤(s.size:Int):=fun _=>by omega
 have HST:Hid (Wm l w.heap.size (9*N+r) w t0 (.slice none 0 0) (w.alloc (.cells #[.bool false,.slice none 0 0] 127))):=hid ⟨[],by rw[hs,←hN,List.take_of_length_le (Nat.le_refl _)],by rw[←hN];exact yt.start l,World.ownsRow_nil _ _ _ _,ja.make _ _ _,(Below.refl _ _).alloc (Nat.le_refl _) _⟩;have HSZ:Hid (t0.size=9*N+r):=hid hsz;have HNN:Hid (l.length=9*N+r):=hid hN;clear hsz hN hd hl ht hs hz hl0;cases neg
 case' true=>rw[if_pos rfl] at HTE
 case' false=>rw[if_neg (by decide)] at HTE;have HTE2:=HTE.out;clear HTE;subst HTE2
 all_goals (
  go_enter Tryz.func174,Tryz.ntmps174
  go_wp2_with fail
  try rw[HTE.out]
  go_loopg [0,4] N (fun g u v wr=>∃t:ByteArray,u = .string t∧Hid (t.size=9*g+r)∧g≤N∧Hid (Wm l w.heap.size (9*g+r) w t v wr))
  case atStart=>exact⟨_,rfl,HSZ,Nat.le_refl _,HST⟩
  case round=>
   obtain⟨t,rfl,htz,hgN,hR⟩:=hrel;obtain⟨ws,hT,hI,hO,hOw,hB⟩:=hR.out;have hwl:=hI.len HLL.out;have hsB:=hB.size;have HI:=hid hI;have HT:=hid hT;have HO:=hid hO;have HOw:=hid hOw;have HB:=hid hB;clear hR hI hT hO hOw hB
   cases gk with
   | zero=>
    have hin:¬(9:Int)<(t.size:Int):=by have:=htz.out;omega
    have htI:t.size≤18:=by have:=htz.out;omega
    have V:Hid (Calls Tryz.prog 180 #[.string t] wr (xC (jf (l.take (9*0+r))) wr)):=hid (by have h:=Qq t wr htI (by rw[HT.out];exact Jo HD.out _);rw[HT.out] at h;exact h);have HLA:=hid (HI.out.last HD.out (by omega));generalize jf (l.take (9*0+r))=dv at *;clear htI
    go_wp2_with fail
    refine V.out.mono ?_;rintro e w1 ⟨rfl,rfl⟩
    go_wp2_with (at_builtin;(refine wpList_append_own _ rfl _ _ 50 rfl (w.heap.size+1) 3 i0 (.int .i64 0) 1 8 Tryz.underlying50 hi hz0 hz1 hz2 rfl (by decide) _ _ _ rfl (HO.out.alloc _) ⟨wr.heap.size,0,none⟩ 1 1 [.int .i64 (dv:Int)] rfl rfl (cell_one_new _ _ _) (fun x hx=>by simp at hx;subst hx;rfl) (by unfold maxLen;omega) (by omega) (by simp;omega) ?_;intro v' w1 hown' hgrow _))
    rw[←xW] at hown';have HSL:=hid (zc hown' (by omega));have HOw':Hid (ja w1 w.heap.size 127 [.bool false,.slice none 0 0]):=hid ((HOw.out.alloc _).grown hgrow (fun e=>by have:=(HO.out.lt _ e).1;omega));have HB':=hid (Below.grown (HB.out.alloc hsB (.cells #[.int .i64 (dv:Int)] 3)) hgrow (by simp;omega) (fun j hj=>by have:=(HO.out.lt _ hj).1;omega));clear hown' hgrow
    go_wp2_with fail
    refine(xj _ v' (ws++[dv]) w1 HLA.out.1 HSL.out).mono ?_;rintro e w2 ⟨rv,rfl,hri,hB2⟩;rw[HLA.out.2] at hri;obtain⟨RA,rn,rc,rfl,hr1,hr2⟩:=hri.open_;generalize hbz:decide (sg _ (jf l)<0)=bz at *;have HO2:=hid (HOw'.out.below hB2 HOw'.out.lt);obtain⟨c0,c1,f0,f1⟩:=HO2.out.two;have HRF:=hid (hri.put2 (a':= .bool bz) (b':= .slice RA rn rc) HO2.out (js _) (jq _ _ _) (js _));have HBF:Hid (Below w.heap.size w ((w2.setCell ⟨w.heap.size,0,none⟩ (.bool bz)).setCell ⟨w.heap.size,1,none⟩ (.slice RA rn rc))):=hid (((HB'.out.trans (hB2.mono HB'.out.size)).setCell (p:=⟨w.heap.size,0,none⟩) (Nat.le_refl _) _).setCell (p:=⟨w.heap.size,1,none⟩) (Nat.le_refl _) _);clear hri hB2 hbz
    go_wp2
    obtain⟨z0,z1,_,_⟩:=(HO2.out.set2 (a':= .bool bz) (b':= .slice RA rn rc)).two;exact bodyPost_ret (v:= .agg #[.bool bz,.slice RA rn rc]) (by simp[results,Tryz.results174,go_sem,z0,z1]) rfl ⟨_,rfl,HRF.out,HBF.out⟩
   | succ g=>
    have hin:(9:Int)<(t.size:Int):=by have:=htz.out;omega
    have h9m:9*(g+1)+r=9*g+r+9:=by omega
    rw[h9m] at HI HT htz;have E1:Hid ((t.extract (t.size-9) t.size).data.toList=(l.take (9*g+r+9)).drop (9*g+r)):=hid (by rw[xD HT.out,htz.out,List.take_take,Nat.min_eq_left (Nat.le_refl _)];congr 1);have E2:Hid ((t.extract 0 (t.size-9)).data.toList=l.take (9*g+r)):=hid (by rw[xD HT.out,htz.out,List.take_take,List.drop_zero];congr 1;omega);have E3:Hid ((t.extract 0 (t.size-9)).size=9*g+r):=hid (by rw[kw E2.out,List.length_take];have:=HI.out.2.2;omega)
    have V:Hid (Calls Tryz.prog 180 #[.string (t.extract (t.size-9) t.size)] wr (xC (jf ((l.take (9*g+r+9)).drop (9*g+r))) wr)):=hid (by
     have h:=Qq (t.extract (t.size-9) t.size) wr (by rw[kw E1.out,List.length_drop,List.length_take];omega) (by rw[E1.out];exact Yg (Jo HD.out _) _)
     rw[E1.out] at h;exact h)
    have HS:=hid (HI.out.step HD.out);generalize jf ((l.take (9*g+r+9)).drop (9*g+r))=dv at *
    have htu:(t.size:Int)≤9000009:=by have:=htz.out;have:=HNN.out;have:=HLL.out;omega
    clear h9m
    go_wp2_with fail
    refine V.out.mono ?_;rintro e w1 ⟨rfl,rfl⟩
    go_wp2_with (at_builtin;(refine wpList_append_own _ rfl _ _ 50 rfl (w.heap.size+1) 3 i0 (.int .i64 0) 1 8 Tryz.underlying50 hi hz0 hz1 hz2 rfl (by decide) _ _ _ rfl (HO.out.alloc _) ⟨wr.heap.size,0,none⟩ 1 1 [.int .i64 (dv:Int)] rfl rfl (cell_one_new _ _ _) (fun x hx=>by simp at hx;subst hx;rfl) (by unfold maxLen;omega) (by omega) (by simp;omega) ?_;intro v' w1 hown' hgrow _))
    have HO':Hid (w1.ownsRow (w.heap.size+1) 3 1 v' (ws++[dv]).length (jp (ws++[dv]))):=hid (by rw[xW,List.length_append,List.length_singleton];exact hown');have HOw':Hid (ja w1 w.heap.size 127 [.bool false,.slice none 0 0]):=hid ((HOw.out.alloc _).grown hgrow (fun e=>by have:=(HO.out.lt _ e).1;omega));have HB':=hid (Below.grown (HB.out.alloc hsB (.cells #[.int .i64 (dv:Int)] 3)) hgrow (by simp;omega) (fun j hj=>by have:=(HO.out.lt _ hj).1;omega));clear hown' hgrow
    go_wp2
    go_roundg g
    case rel=>exact⟨_,rfl,E3,by omega,hid ⟨_,E2.out,HS.out,HO'.out,HOw'.out,HB'.out⟩⟩
    case measure=>omega)
theorem Xs (neg:Bool) (s:ByteArray) (l:List UInt8) (w:World) (hs:s.data.toList=(if neg=true then [45] else [])++l) (hd:jW l) (hl0:0<l.length) (hl:l.length≤9000000):
  Calls Tryz.prog 174 #[.string s] w (kN (sg neg (jf l)) w):=by
 have hz:=kw hs;rw[List.length_append] at hz
 have h0:0<s.size:=by omega
 cases neg with
 | true=>
  have hs':s.data.toList=45::l:=hs
  have e:(s.extract 1 s.size).data.toList=l:=by rw[xD hs',kw hs',List.take_of_length_le (Nat.le_refl _)];rfl
  refine Wn true s (s.extract 1 s.size) l w h0 (by rw[KP hs' h0];rfl) (if_pos rfl) e ?_ hd hl0 hl;rw[kw e,if_pos rfl,kw hs'];simp
 | false=>
  have hs':s.data.toList=l:=by rw[hs];rfl
  refine Wn false s s l w h0 ?_ (if_neg (by decide)) hs' (by simp) hd hl0 hl;have hge:=xm s 0 h0;exact Zf (hd _ (by rw[←hs'];exact List.mem_of_getElem? hge))
def xH (x y:Int) (w:World) (e:Ending) (w':World):Prop:=∃v u,e = .returned (.tuple #[v,u])∧Ri w' v x∧Ri w' u y∧Below w.heap.size w w'
def R2 (w W:World):Prop:=Below w.heap.size w W∧W.heap.size=w.heap.size+2∧ja W w.heap.size 127 [.bool false,.slice none 0 0]∧ja W (w.heap.size+1) 127 [.bool false,.slice none 0 0]
theorem R2.mk (w:World):R2 w ((w.alloc (.cells #[.bool false,.slice none 0 0] 127)).alloc (.cells #[.bool false,.slice none 0 0] 127)):=
 ⟨((Below.refl _ _).alloc (Nat.le_refl _) _).alloc (by simp) _,by simp,(ja.make w _ [.bool false,.slice none 0 0]).alloc _,Qa⟩
def C2 (w z:World):Prop:=(z.cell? ⟨w.heap.size,0,none⟩=some (.bool false)∧z.cell? ⟨w.heap.size,1,none⟩=some (.slice none 0 0)∧z.cell? ⟨w.heap.size+1,0,none⟩=some (.bool false)∧z.cell? ⟨w.heap.size+1,1,none⟩=some (.slice none 0 0))∧(z.frozen? ⟨w.heap.size,0,none⟩=false∧z.frozen? ⟨w.heap.size,1,none⟩=false∧z.frozen? ⟨w.heap.size+1,0,none⟩=false∧z.frozen? ⟨w.heap.size+1,1,none⟩=false)
theorem R2.cells {w W z:World} (h:R2 w W) (hb:Below W.heap.size W z):C2 w z:=by
 obtain⟨_,hs,h1,h2⟩:=h;have k1:=h1.below hb (by omega);have k2:=h2.below hb (by omega);exact⟨⟨k1.cell 0,k1.cell 1,k2.cell 0,k2.cell 1⟩,⟨k1.free 0,k1.free 1,k2.free 0,k2.free 1⟩⟩
theorem R2.last {w W z:World} {x y:Int} {b1 b2:Bool} {A1 A2:Option Addr} {m1 m2 c1 c2:Nat} (h:R2 w W) (hb:Below W.heap.size W z) (r1:Ri z (.agg #[.bool b1,.slice A1 m1 c1]) x) (r2:Ri z (.agg #[.bool b2,.slice A2 m2 c2]) y):
  ∃z9,z9=(((z.setCell ⟨w.heap.size,0,none⟩ (.bool b1)).setCell ⟨w.heap.size,1,none⟩ (.slice A1 m1 c1)).setCell ⟨w.heap.size+1,0,none⟩ (.bool b2)).setCell ⟨w.heap.size+1,1,none⟩ (.slice A2 m2 c2) ∧
   (z9.cell? ⟨w.heap.size,0,none⟩=some (.bool b1)∧z9.cell? ⟨w.heap.size,1,none⟩=some (.slice A1 m1 c1)∧z9.cell? ⟨w.heap.size+1,0,none⟩=some (.bool b2)∧z9.cell? ⟨w.heap.size+1,1,none⟩=some (.slice A2 m2 c2)) ∧
   xH x y w (.returned (.tuple #[.agg #[.bool b1,.slice A1 m1 c1],.agg #[.bool b2,.slice A2 m2 c2]])) z9:=by
 obtain⟨hB,hs,h1,h2⟩:=h;have k1:=h1.below hb (by omega);have k2:=h2.below hb (by omega);have k3:=k1.set2 (a':= .bool b1) (b':= .slice A1 m1 c1);have k4:=(k2.other (p:=⟨w.heap.size,0,none⟩) (by show w.heap.size+1≠w.heap.size;omega) (.bool b1)).other (p:=⟨w.heap.size,1,none⟩) (by show w.heap.size+1≠w.heap.size;omega) (.slice A1 m1 c1);have k5:=k4.set2 (a':= .bool b2) (b':= .slice A2 m2 c2);have k6:=(k3.other (p:=⟨w.heap.size+1,0,none⟩) (by show w.heap.size≠w.heap.size+1;omega) (.bool b2)).other (p:=⟨w.heap.size+1,1,none⟩) (by show w.heap.size≠w.heap.size+1;omega) (.slice A2 m2 c2);have r5:=(r1.put2 (a':= .bool b1) (b':= .slice A1 m1 c1) k1 (js _) (jq _ _ _) (js _)).put2 (a':= .bool b2) (b':= .slice A2 m2 c2) k4 (js _) (jq _ _ _) (js _);have r6:=(r2.put2 (a':= .bool b1) (b':= .slice A1 m1 c1) k1 (js _) (jq _ _ _) (js _)).put2 (a':= .bool b2) (b':= .slice A2 m2 c2) k4 (js _) (jq _ _ _) (js _);refine⟨_,rfl,⟨k6.cell 0,k6.cell 1,k5.cell 0,k5.cell 1⟩,_,_,rfl,r5,r6,?_⟩;exact((((hB.trans (hb.mono hB.size)).setCell (p:=⟨w.heap.size,0,none⟩) (Nat.le_refl _) _).setCell (p:=⟨w.heap.size,1,none⟩) (Nat.le_refl _) _).setCell (p:=⟨w.heap.size+1,0,none⟩) (Nat.le_succ _) _).setCell (p:=⟨w.heap.size+1,1,none⟩) (Nat.le_succ _) _
theorem DZ (s:ByteArray) (k:Nat) (x y:Int) (w:World) (hk:(k:Int)+1≤(s.size:Int)) (hsz:(s.size:Int)≤20000000) (SL:Hid (∀W,Calls Tryz.prog 103 #[.string s] W (xC k W)))
  (PN:Hid (∀W,Calls Tryz.prog 174 #[.string (s.extract 0 k)] W (kN x W))) (PD:Hid (∀W,Calls Tryz.prog 174 #[.string (s.extract (k+1) s.size)] W (kN y W))):
  Calls Tryz.prog 105 #[.string s] w (xH x y w):=by
 obtain⟨W0,hW0⟩:∃W0,W0=(w.alloc (.cells #[.bool false,.slice none 0 0] 127)).alloc (.cells #[.bool false,.slice none 0 0] 127):=⟨_,rfl⟩
 have hR:R2 w W0:=by rw[hW0];exact R2.mk w
 have KC:=hid (fun z hb=>hR.cells (z:=z) hb);have KT:=hid (fun (z z':World) (hb:Below z.heap.size z z') (h5:Below W0.heap.size W0 z)=>And.intro (hR.cells (h5.trans (hb.mono h5.size))) (h5.trans (hb.mono h5.size)));have KL:=hid (fun (z:World) (b1 b2:Bool) (A1 A2:Option Addr) (m1 m2 c1 c2:Nat) hb r1 r2=>hR.last (z:=z) (x:=x) (y:=y) (b1:=b1) (b2:=b2) (A1:=A1) (A2:=A2) (m1:=m1) (m2:=m2) (c1:=c1) (c2:=c2) hb r1 r2);have hb9:Below W0.heap.size W0 W0.drew:=(Below.refl _ _).drew
 have hbe:((k:Int)==(s.size:Int))=false:=by simpa using (by omega:¬(k:Int)=(s.size:Int))
 have hkI:(k:Int)≤(s.size:Int):=by omega
 clear hR;go_enter Tryz.func105,Tryz.ntmps105
 go_upto_region 1 with fail
 rw[←hW0];clear hW0
 go_wp2_with fail
 refine(SL.out _).mono ?_;rintro e w1 ⟨rfl,rfl⟩
 go_wp2_with fail
 obtain⟨⟨e1,e2,e3,e4⟩,⟨e5,e6,e7,e8⟩⟩:=KC.out _ hb9;have hw1:IntKind.i64.wrap ((k:Int)+1)=(k:Int)+1:=IntWalk.i64_in _ (by omega)
 have hw2:(0:Int)≤(k:Int)+1:=by omega
 have hw3:((k:Int)+1).toNat=k+1:=by omega
 go_region_with (first
  | (go_at_call_of 174 (Value.string (s.extract 0 k));(with_reducible refine(PN.out _).mono ?_);rintro e w1 ⟨v1,rfl,r1,hB1⟩;have hS1:=KT.out _ _ hB1 (by first | exact HBW.out | exact hb9);obtain⟨A1,m1,c1,rfl,_,_⟩:=r1.open_;have HN1:=hid r1;(try replace HD1:=hid (HD1.out.below hB1));clear e1 e2 e3 e4 e5 e6 e7 e8;obtain⟨⟨⟨e1,e2,e3,e4⟩,⟨e5,e6,e7,e8⟩⟩,e9⟩:=hS1;have HBW:=hid e9;clear r1 hB1 e9)
  | (go_at_call 174;(with_reducible refine(PD.out _).mono ?_);rintro e w1 ⟨v2,rfl,r2,hB2⟩;have hS2:=KT.out _ _ hB2 (by first | exact HBW.out | exact hb9);obtain⟨A2,m2,c2,rfl,_,_⟩:=r2.open_;have HD1:=hid r2;(try replace HN1:=hid (HN1.out.below hB2));clear e1 e2 e3 e4 e5 e6 e7 e8;obtain⟨⟨⟨e1,e2,e3,e4⟩,⟨e5,e6,e7,e8⟩⟩,e9⟩:=hS2;have HBW:=hid e9;clear r2 hB2 e9))
 all_goals (
  obtain⟨z9,hz9,⟨z0,z1,z2,z3⟩,hP⟩:=KL.out _ _ _ _ _ _ _ _ _ HBW.out HN1.out HD1.out;have HP:=hid hP;rw[←hz9];clear hz9 hP HN1 HD1 HBW KL KT KC PN PD SL hb9 e1 e2 e3 e4 e5 e6 e7 e8;generalize decide (x<0)=bx at *;generalize decide (y<0)=by_ at *
  go_wp2
  exact bodyPost_ret (v:= .tuple #[.agg #[.bool bx,.slice A1 m1 c1],.agg #[.bool by_,.slice A2 m2 c2]]) (by simp[results,Tryz.results105,go_sem,z0,z1,z2,z3]) rfl HP.out)
theorem D0 (s:ByteArray) (x:Int) (w:World) (SL:Hid (∀W,Calls Tryz.prog 103 #[.string s] W (xC s.size W)))
  (PN:Hid (∀W,Calls Tryz.prog 174 #[.string s] W (kN x W))):
  Calls Tryz.prog 105 #[.string s] w (xH x 1 w):=by
 obtain⟨W0,hW0⟩:∃W0,W0=(w.alloc (.cells #[.bool false,.slice none 0 0] 127)).alloc (.cells #[.bool false,.slice none 0 0] 127):=⟨_,rfl⟩
 have hR:R2 w W0:=by rw[hW0];exact R2.mk w
 have KC:=hid (fun z hb=>hR.cells (z:=z) hb);have KL:=hid (fun (z:World) (b1 b2:Bool) (A1 A2:Option Addr) (m1 m2 c1 c2:Nat) hb r1 r2=>hR.last (z:=z) (x:=x) (y:=1) (b1:=b1) (b2:=b2) (A1:=A1) (A2:=A2) (m1:=m1) (m2:=m2) (c1:=c1) (c2:=c2) hb r1 r2);clear hR;go_enter Tryz.func105,Tryz.ntmps105
 go_upto_region 1 with fail
 rw[←hW0];clear hW0
 go_wp2_with fail
 refine(SL.out _).mono ?_;rintro e w1 ⟨rfl,rfl⟩
 go_wp2_with fail
 refine(PN.out _).mono ?_;rintro e w1 ⟨v1,rfl,r1,hB1⟩;obtain⟨A1,m1,c1,rfl,_,_⟩:=r1.open_;have HN1:=hid r1;have HB1:=hid hB1;clear r1 hB1
 go_wp2_with fail
 refine(Ha 1 _ (by decide)).mono ?_;rintro e w2 ⟨v2,rfl,r2,hB2⟩;obtain⟨A2,m2,c2,rfl,_,_⟩:=r2.open_;have HD1:Hid (Ri w2 (.agg #[.bool false,.slice A2 m2 c2]) 1):=hid r2;replace HN1:=hid (HN1.out.below hB2);have HBW:=hid (HB1.out.trans (hB2.mono HB1.out.size));obtain⟨⟨e1,e2,e3,e4⟩,⟨e5,e6,e7,e8⟩⟩:=KC.out _ HBW.out;clear r2 hB2 HB1
 go_wp2
 obtain⟨z9,hz9,⟨z0,z1,z2,z3⟩,hP⟩:=KL.out _ _ _ _ _ _ _ _ _ HBW.out HN1.out HD1.out;rw[←hz9];exact bodyPost_ret (v:= .tuple #[.agg #[.bool (decide (x<0)),.slice A1 m1 c1],.agg #[.bool false,.slice A2 m2 c2]]) (by simp[results,Tryz.results105,go_sem,z0,z1,z2,z3]) rfl hP
theorem Gz {x r:List UInt8} (h:∀c∈x,c≠47):jk (x++47::r)=x.length:=by
 have h0:jk x=x.length:=by
  unfold jk
  exact List.findIdx_eq_length.2 fun c hc=>by simpa using h c hc
 unfold jk at h0 ⊢;rw[List.findIdx_append,h0,if_neg (by omega),List.findIdx_cons];simp
theorem GB {x:List UInt8} (h:∀c∈x,c≠47):jk x=x.length:=by
 unfold jk
 exact List.findIdx_eq_length.2 fun c hc=>by simpa using h c hc
theorem XH {neg:Bool} {a:List UInt8} (ha:jW a):∀c∈((if neg=true then [45] else [])++a:List UInt8),c≠47:=by
 intro c hc;rcases List.mem_append.1 hc with h | h
 ·cases neg with
  | true=>have:c=45:=by simpa using h
          subst this;decide
  | false=>simp at h
 ·have:=ha c h
  rintro rfl;exact absurd this.1 (by decide)
theorem Wo (neg:Bool) (a b:List UInt8) (s:ByteArray) (w:World) (hs:s.data.toList=((if neg=true then [45] else [])++a)++47::b) (ha:jW a) (hb:jW b) (a0:0<a.length) (b0:0<b.length) (al:a.length≤9000000) (bl:b.length≤9000000):
  Calls Tryz.prog 105 #[.string s] w (xH (sg neg (jf a)) (jf b:Int) w):=by
 have hz:=kw hs;generalize hx:((if neg=true then [45] else [])++a:List UInt8)=x at hs hz
 have hxl:x.length≤9000001:=by rw[←hx,List.length_append];cases neg <;> simp <;> omega
 rw[List.length_append,List.length_cons] at hz;refine DZ s x.length _ _ w (by omega) (by omega) (hid fun W=> ?_) (hid fun W=> ?_) (hid fun W=> ?_)
 ·have h:=zi s W (by omega)
  rw[hs,Gz (by rw[←hx];exact XH ha)] at h;exact h
 ·exact Xs neg _ a W (by rw[xD hs,hx];simp) ha a0 al
 ·have h:=Xs false (s.extract (x.length+1) s.size) b W (by rw[xD hs,hz,List.take_of_length_le (by simp)];simp[List.drop_append]) hb b0 bl
  have e:sg false (jf b)=(jf b:Int):=by unfold sg;rw[if_neg (by decide)]
  rw[e] at h;exact h
theorem DY (neg:Bool) (a:List UInt8) (s:ByteArray) (w:World) (hs:s.data.toList=(if neg=true then [45] else [])++a) (ha:jW a) (a0:0<a.length) (al:a.length≤9000000):
  Calls Tryz.prog 105 #[.string s] w (xH (sg neg (jf a)) 1 w):=by
 have hz:=kw hs
 have hxl:((if neg=true then [45] else [])++a:List UInt8).length≤9000001:=by rw[List.length_append];cases neg <;> simp <;> omega
 refine D0 s _ w (hid fun W=> ?_) (hid fun W=>Xs neg s a W hs ha a0 al);have h:=zi s W (by omega);rw[hs,GB (XH ha),←hz] at h;exact h
def Kx (q:Rat):Prop:=(decDigits q.num.natAbs).length≤9000000∧(decDigits q.den).length≤9000000
theorem XE (q:Rat):jg q=((if decide (q.num<0)=true then [45] else [])++decDigits q.num.natAbs)++(if q.den=1 then [] else 47::decDigits q.den):=by
 unfold jg;by_cases h:q.num<0 <;> simp[h]
theorem Ki (q:Rat) (w:World) (h:Kx q):Calls Tryz.prog 105 #[.string ⟨(jg q).toArray⟩] w (xH q.num (q.den:Int) w):=by
 have e1:sg (decide (q.num<0)) (jf (decDigits q.num.natAbs))=q.num:=by rw[y4];exact ZB q
 by_cases hd:q.den=1
 ·have h2:=DY (decide (q.num<0)) (decDigits q.num.natAbs) ⟨(jg q).toArray⟩ w (by rw[XE,if_pos hd];simp) (qw _) (yZ _) h.1
  rw[e1] at h2;rw[hd];exact h2
 ·have h2:=Wo (decide (q.num<0)) (decDigits q.num.natAbs) (decDigits q.den) ⟨(jg q).toArray⟩ w (by rw[XE,if_neg hd]) (qw _) (qw _) (yZ _) (yZ _) h.1 h.2
  rw[e1,y4] at h2;exact h2
theorem ZL {s:ByteArray} {l:List UInt8} (h:s.data.toList=l) (a b:Nat):(s.extract a b).data.toList=(l.take b).drop a:=by
 rw[←h];simp[List.drop_take]
def xK (l:List UInt8):List UInt8:=l.take (jk l)
def yN (l:List UInt8):List UInt8:=if jk l=l.length then [49] else l.drop (jk l+1)
def kP (l:List UInt8):Int:=if l=[48] then 0 else if l[0]? =some 45 then -1 else 1
def xu (l:List UInt8):List UInt8:=if kP l<0 then l.drop 1 else l
def xY (l:List UInt8):Int:=if 600<(xu (xK l)).length∨600<(yN l).length then 4 else 0
def Xb (l:List UInt8) (w:World) (e:Ending) (w':World):Prop:=e = .returned (.string ⟨l.toArray⟩)∧w=w'
theorem Qo (s:ByteArray):s=⟨s.data.toList.toArray⟩:=by cases s;simp
theorem BQ (l:List UInt8) (w:World) (hl:l.length≤4000000000000000000):Calls Tryz.prog 166 #[.string ⟨l.toArray⟩] w (Xb (xK l) w):=by
 have SL:=hid (zi ⟨l.toArray⟩ w (by simp[ByteArray.size];omega))
 obtain⟨s,hs⟩:∃s:ByteArray,s=⟨l.toArray⟩:=⟨_,rfl⟩
 have hsl:s.data.toList=l:=by rw[hs]
 have hsz:s.size=l.length:=by rw[hs];simp[ByteArray.size]
 rw[←hs] at SL ⊢;rw[hsl] at SL;have hk:=Kr l
 have HE:Hid (s.extract 0 (jk l)=⟨(xK l).toArray⟩):=hid (by
  have h:=ZL (a:=0) (b:=jk l) hsl
  rw[Qo (s.extract 0 (jk l)),h];unfold xK;simp)
 clear hs hsl
 have hkI:((jk l:Nat):Int)≤(s.size:Int):=by omega
 have hsI:(s.size:Int)≤4000000000000000000:=by omega
 clear hk hsz hl;generalize jk l=k at *;go_enter Tryz.func166,Tryz.ntmps166
 go_wp2_with fail
 refine SL.out.mono ?_;rintro e w1 ⟨rfl,rfl⟩
 go_wp2
 go_ret;exact⟨by rw[←HE.out];rfl,rfl⟩
theorem BL (l:List UInt8) (w:World) (hl:l.length≤4000000000000000000):Calls Tryz.prog 167 #[.string ⟨l.toArray⟩] w (Xb (yN l) w):=by
 have SL:=hid (zi ⟨l.toArray⟩ w (by simp[ByteArray.size];omega))
 obtain⟨s,hs⟩:∃s:ByteArray,s=⟨l.toArray⟩:=⟨_,rfl⟩
 have hsl:s.data.toList=l:=by rw[hs]
 have hsz:s.size=l.length:=by rw[hs];simp[ByteArray.size]
 rw[←hs] at SL ⊢;rw[hsl] at SL;have hk:=Kr l;by_cases h:jk l=l.length
 ·have HD:Hid (yN l=[49]):=hid (by unfold yN;rw[if_pos h])
  have hb:((jk l:Nat):Int)==(s.size:Int):=by rw[h,hsz];simp
  clear hs hsl hsz h hk;generalize jk l=k at *;go_enter Tryz.func167,Tryz.ntmps167
  go_wp2_with fail
  refine SL.out.mono ?_;rintro e w1 ⟨rfl,rfl⟩
  go_wp2
  go_ret;exact⟨by rw[HD.out];rfl,rfl⟩
 ·have hb:(((jk l:Nat):Int)==(s.size:Int))=false:=by simpa using (by omega:¬((jk l:Nat):Int)=(s.size:Int))
  have hkI:((jk l:Nat):Int)+1≤(s.size:Int):=by omega
  have hsI:(s.size:Int)≤4000000000000000000:=by omega
  have HE:Hid (s.extract (jk l+1) s.size=⟨(yN l).toArray⟩):=hid (by
   have h1:=ZL (a:=jk l+1) (b:=s.size) hsl
   rw[Qo (s.extract (jk l+1) s.size),h1];unfold yN;rw[if_neg h,hsz,List.take_of_length_le (Nat.le_refl _)])
  clear hs hsl hk hsz hl h;generalize jk l=k at *;go_enter Tryz.func167,Tryz.ntmps167
  go_wp2_with fail
  refine SL.out.mono ?_;rintro e w1 ⟨rfl,rfl⟩
  go_wp2
  go_ret;exact⟨by rw[←HE.out];rfl,rfl⟩
def Vy (n:Int) (w:World) (e:Ending) (w':World):Prop:=e = .returned (.int .i64 n)∧w=w'
theorem Km (l:List UInt8) (w:World) (hl:l.length≤4000000000000000000):Calls Tryz.prog 62 #[.string ⟨l.toArray⟩] w (Vy (kP l) w):=by
 obtain⟨s,hs⟩:∃s:ByteArray,s=⟨l.toArray⟩:=⟨_,rfl⟩
 have hsl:s.data.toList=l:=by rw[hs]
 have hsz:s.size=l.length:=by rw[hs];simp[ByteArray.size]
 rw[←hs];by_cases h:l=[48]
 ·have HS:Hid (kP l=0):=hid (by unfold kP;rw[if_pos h])
  have hz:(s.toList==[48])=true:=by rw[ByteArray.toList_eq,hsl,h];rfl
  clear hs hsl hsz h;go_enter Tryz.func62,Tryz.ntmps62
  go_wp2
  go_ret;exact⟨by rw[HS.out];rfl,rfl⟩
 ·have hz:(s.toList==[48])=false:=by rw[ByteArray.toList_eq,hsl];simpa using h
  by_cases h0:s.size=0
  ·have HS:Hid (kP l=1):=hid (by
    have:l=[]:=List.length_eq_zero_iff.1 (by omega)
    subst this;unfold kP;rw[if_neg (by simp),if_neg (by simp)])
   have hI:(0<s.size)=False:=eq_false (by omega);clear hs hsl hsz h h0;go_enter Tryz.func62,Tryz.ntmps62
   go_wp2
   go_ret;exact⟨by rw[HS.out];rfl,rfl⟩
  ·have h1:0<s.size:=by omega
   have hI:(0:Int)<(s.size:Int):=by omega
   have hg:=xm s 0 h1;rw[hsl] at hg;by_cases hc:l[0]? =some 45
   ·have HS:Hid (kP l = -1):=hid (by unfold kP;rw[if_neg h,if_pos hc])
    have hcc:(((s[0]).toNat:Int)==45)=true:=by
     rw[hc] at hg;have:s[0]=45:=(Option.some.inj hg).symm;rw[this];rfl
    clear hs hsl hsz h h0 hc hg;go_enter Tryz.func62,Tryz.ntmps62
    go_wp2
    go_ret;exact⟨by rw[HS.out];rfl,rfl⟩
   ·have HS:Hid (kP l=1):=hid (by unfold kP;rw[if_neg h,if_neg hc])
    have hcc:(((s[0]).toNat:Int)==45)=false:=by
     simp only[beq_eq_false_iff_ne];intro e;apply hc;rw[hg]
     have:(s[0]).toNat=45:=by omega
     congr 1
     exact UInt8.toNat_inj.1 this
    clear hs hsl hsz h h0 hc hg;go_enter Tryz.func62,Tryz.ntmps62
    go_wp2
    go_ret;exact⟨by rw[HS.out];rfl,rfl⟩
theorem C8 {l:List UInt8} (h:kP l<0):0<l.length:=by
 unfold kP at h;split at h
 ·omega
 ·split at h
  ·rename_i hc
   rcases Nat.eq_zero_or_pos l.length with h0 | h0
   ·rw[List.length_eq_zero_iff.1 h0] at hc;simp at hc
   ·exact h0
  ·omega
theorem BJ (l:List UInt8) (w:World) (hl:l.length≤4000000000000000000):Calls Tryz.prog 165 #[.string ⟨l.toArray⟩] w (Xb (xu l) w):=by
 have SG:=hid (Km l w hl)
 obtain⟨s,hs⟩:∃s:ByteArray,s=⟨l.toArray⟩:=⟨_,rfl⟩
 have hsl:s.data.toList=l:=by rw[hs]
 have hsz:s.size=l.length:=by rw[hs];simp[ByteArray.size]
 rw[←hs] at SG ⊢;by_cases h:kP l<0
 ·have hp:=C8 h
  have HE:Hid (s.extract 1 s.size=⟨(xu l).toArray⟩):=hid (by
   have h1:=ZL (a:=1) (b:=s.size) hsl
   rw[Qo (s.extract 1 s.size),h1];unfold xu;rw[if_pos h,hsz,List.take_of_length_le (Nat.le_refl _)])
  have hI:(1:Int)≤(s.size:Int):=by omega
  have hsI:(s.size:Int)≤4000000000000000000:=by omega
  clear hs hsl hsz hp hl;generalize kP l=g at *;go_enter Tryz.func165,Tryz.ntmps165
  go_wp2_with fail
  refine SG.out.mono ?_;rintro e w1 ⟨rfl,rfl⟩
  go_wp2
  go_ret;exact⟨by rw[←HE.out];rfl,rfl⟩
 ·have HE:Hid (s=⟨(xu l).toArray⟩):=hid (by unfold xu;rw[if_neg h];exact hs)
  have hI:(kP l<0)=False:=eq_false h;clear hs hsl hsz hl h;generalize kP l=g at *;go_enter Tryz.func165,Tryz.ntmps165
  go_wp2_with fail
  refine SG.out.mono ?_;rintro e w1 ⟨rfl,rfl⟩
  go_wp2
  go_ret;exact⟨by rw[←HE.out];rfl,rfl⟩
theorem GP (l:List UInt8):(xK l).length≤l.length:=by unfold xK;rw[List.length_take];omega
theorem C7 (l:List UInt8):(xu l).length≤l.length:=by unfold xu;split <;> simp
theorem Gy (l:List UInt8):(⟨l.toArray⟩:ByteArray).size=l.length:=by simp[ByteArray.size]
theorem BP (l:List UInt8) (w:World) (hl:l.length≤4000000000000000000):Calls Tryz.prog 115 #[.string ⟨l.toArray⟩] w (Vy (xY l) w):=by
 have NM:=hid (BQ l w hl);have AB:=hid (BJ (xK l) w (by have:=GP l;omega));have DN:=hid (BL l w hl)
 have ha:(xu (xK l)).length≤4000000000000000000:=by have:=GP l;have:=C7 (xK l);omega
 have HL:Hid (∀(a b:Prop) [Decidable a] [Decidable b],(a↔600<(xu (xK l)).length)→(b↔600<(yN l).length)→(a∨b→xY l=4)∧(¬a → ¬b→xY l=0)):=hid (fun a b _ _ h1 h2=>by
  unfold xY
  refine⟨fun h=>by rw[if_pos];rw[←h1,←h2];exact h,fun h3 h4=>by rw[if_neg];rw[←h1,←h2];rintro (h | h);exact h3 h;exact h4 h⟩)
 clear hl;have s1:=Gy (xu (xK l));have s2:=Gy (yN l)
 obtain⟨A,hA⟩:∃A:ByteArray,A=⟨(xu (xK l)).toArray⟩:=⟨_,rfl⟩
 obtain⟨D,hD⟩:∃D:ByteArray,D=⟨(yN l).toArray⟩:=⟨_,rfl⟩
 unfold Xb at AB DN;rw[←hA] at AB s1;rw[←hD] at DN s2;rw[←s1] at HL ha;rw[←s2] at HL;clear hA hD s1 s2;have HR:Hid ((600<A.size→xY l=4)∧(¬600<A.size→600<D.size→xY l=4)∧(¬600<A.size → ¬600<D.size→xY l=0)):=hid ⟨fun h=>(HL.out _ _ Iff.rfl Iff.rfl).1 (.inl h),fun _ h=>(HL.out _ _ Iff.rfl Iff.rfl).1 (.inr h),fun h1 h2=>(HL.out _ _ Iff.rfl Iff.rfl).2 h1 h2⟩;clear HL;generalize xY l=g at *;by_cases h1:600<A.size
 ·have hI:(600:Int)<(A.size:Int):=by omega
  have HG:=hid (HR.out.1 h1);clear h1 HR;go_enter Tryz.func115,Tryz.ntmps115
  go_wp2_with fail
  refine NM.out.mono ?_;rintro e w1 ⟨rfl,rfl⟩
  go_wp2_with fail
  refine AB.out.mono ?_;rintro e w1 ⟨rfl,rfl⟩
  go_wp2
  go_ret;exact⟨by rw[HG.out];rfl,rfl⟩
 ·have hI:decide ((600:Int)<(A.size:Int))=false:=decide_eq_false (by omega)
  by_cases h2:600<D.size
  ·have hJ:(600:Int)<(D.size:Int):=by omega
   have HG:=hid (HR.out.2.1 h1 h2);clear h1 h2 HR;go_enter Tryz.func115,Tryz.ntmps115
   go_wp2_with fail
   refine NM.out.mono ?_;rintro e w1 ⟨rfl,rfl⟩
   go_wp2_with fail
   refine AB.out.mono ?_;rintro e w1 ⟨rfl,rfl⟩
   go_wp2_with fail
   refine DN.out.mono ?_;rintro e w1 ⟨rfl,rfl⟩
   go_wp2
   go_ret;exact⟨by rw[HG.out];rfl,rfl⟩
  ·have hJ:decide ((600:Int)<(D.size:Int))=false:=decide_eq_false (by omega)
   have HG:=hid (HR.out.2.2 h1 h2);clear h1 h2 HR;go_enter Tryz.func115,Tryz.ntmps115
   go_wp2_with fail
   refine NM.out.mono ?_;rintro e w1 ⟨rfl,rfl⟩
   go_wp2_with fail
   refine AB.out.mono ?_;rintro e w1 ⟨rfl,rfl⟩
   go_wp2_with fail
   refine DN.out.mono ?_;rintro e w1 ⟨rfl,rfl⟩
   go_wp2
   go_ret;exact⟨by rw[HG.out];rfl,rfl⟩
