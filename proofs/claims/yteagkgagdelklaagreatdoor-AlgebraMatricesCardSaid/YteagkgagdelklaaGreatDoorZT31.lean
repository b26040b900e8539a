/- Contract: long division of natural numbers. -/
import Derived.Test.YteagkgagdelklaaGreatDoorZT30
set_option maxRecDepth 100000
set_option maxHeartbeats 8000000
namespace Go.Proofs.YteagkgagdelklaaGreatDoor
open Go.RowKit Go.Lib
structure Kt (us vs M Q:List Nat) (w0 wr:World) (gd gw gq j:Nat):Prop where
 dv:Dw us vs M Q j
 own:ja wr gw 89 (jz M)
 quo:ja wr gq 89 (jz Q)
 div:Sl wr 1 (.slice (some ⟨gd,0,none⟩) vs.length (vs.length+1)) (jz vs)
 blw:Below w0.heap.size w0 wr
section
variable {us vs M M2 Q:List Nat} {w0 wr w1:World} {gd gw gq n j:Nat}
theorem Sl.but {v:Value} {xs:List Value} {g:Nat} (h:Sl wr 1 v xs) (hb:jk g wr w1) (hg:∀b off n c,v = .slice (some ⟨b,off,none⟩) n c→b≠g):Sl w1 1 v xs:=by
 obtain⟨A,n,c,rfl,h1,h2,h3,h4⟩:=h;refine⟨A,n,c,rfl,h1,h2,h3,fun h0=> ?_⟩;obtain⟨b,off,rfl,hlt,hc⟩:=h4 h0;exact⟨b,off,rfl,Qac hlt hb.size,fun k u hu=>(World.cell?_of_block (a:=⟨b,off+k,none⟩) (hb.block b hlt (hg b off n c rfl))).trans (hc k u hu)⟩
theorem jk.below0 {g:Nat} (h:jk g wr w1) (hb:Below w0.heap.size w0 wr) (hg:w0.heap.size≤g):Below w0.heap.size w0 w1:=
 hb.trans (h.toBelow hg hb.size)
theorem Kt.below (h:Kt us vs M Q w0 wr gd gw gq j) (hb:Below wr.heap.size wr w1):Kt us vs M Q w0 w1 gd gw gq j:=
 ⟨h.dv,h.own.below hb h.own.lt,h.quo.below hb h.quo.lt,h.div.below hb,h.blw.trans (hb.mono h.blw.size)⟩
structure JS (vs Q:List Nat) (w0 wr:World) (gd gw gq:Nat):Prop where
 quo:ja wr gq 89 (jz Q)
 div:Sl wr 1 (.slice (some ⟨gd,0,none⟩) vs.length (vs.length+1)) (jz vs)
 blw:Below w0.heap.size w0 wr
 a1:gd≠gw
 a2:gq≠gw
 a3:gd≠gq
 b1:w0.heap.size≤gw
 b2:w0.heap.size≤gq
theorem JS.but (h:JS vs Q w0 wr gd gw gq) (hb:jk gw wr w1):JS vs Q w0 w1 gd gw gq:=
 ⟨h.quo.but hb h.a2,h.div.but hb (fun b off n c e=>by injection e with e _ _;injection e with e;injection e with e _ _;subst e;exact h.a1),hb.below0 h.blw h.b1,h.a1,h.a2,h.a3,h.b1,h.b2⟩
theorem JS.done (h:JS vs Q w0 wr gd gw gq) (hO:ja wr gw 89 (jz M2)) {t:Nat} (hd:Dw us vs M2 (Q.set j t) j):Kt us vs M2 (Q.set j t) w0 (wr.setCell ⟨gq,j,none⟩ (.int .u64 (t:Int))) gd gw gq j:=by
 have hb:jk gq wr (wr.setCell ⟨gq,j,none⟩ (.int .u64 (t:Int))):=(jk.refl gq wr).setCell ⟨gq,j,none⟩ rfl _;refine⟨hd,hO.but hb (fun e=>h.a2 e.symm),?_,h.div.but hb (fun b off n c e=>by injection e with e _ _;injection e with e;injection e with e _ _;subst e;exact h.a3),hb.below0 h.blw h.b2⟩;rw[←kN];exact h.quo.put _ _
theorem Yf {g:Nat} {o k cap:Nat} (h:ja wr g 89 (jz M)) (hk:o+k≤M.length) (hc:k≤cap) (hcap:cap≤140737488355328) (h0:0<k):Sl wr 1 (.slice (some ⟨g,o,none⟩) k cap) (jz ((M.drop o).take k)):=by
 refine⟨_,k,cap,rfl,hc,hcap,by rw[jB,Qak,Qa3];omega,fun _=>⟨g,o,rfl,h.lt,fun i u hu=> ?_⟩⟩
 have hi:i<k:=by
  have:=(List.getElem?_eq_some_iff.1 hu).1;rw[jB,Qak] at this;omega
 rw[h.cell (o+i),←hu];unfold jz;rw[Qao,Qao,QbQ hi,List.getElem?_drop]
theorem C6 {g cap:Nat} (h:ja wr g 89 (jz M)) (hc:M.length≤cap) (hcap:cap≤140737488355328) (h0:0<M.length):Sl wr 1 (.slice (some ⟨g,0,none⟩) M.length cap) (jz M):=by
 have:=Yf (o:=0) (k:=M.length) h (by omega) hc hcap h0
 rwa [Qa0,Qad (Nat.le_refl _)] at this
end
theorem WO (v u:Value) (x y:Nat) (w:World) (h:Nt w v x) (h':Nt w u y) (hy:WB≤y) (hyx:y≤x) (hb:kr x):
  Calls Tryz.prog 164 #[v,u] w fun e w'=>∃q r,e = .returned (.tuple #[q,r])∧Nt w' q (x/y)∧Nt w' r (x%y)∧Below w.heap.size w w':=by
 obtain⟨xs,A,c,rfl,h1,h2,h3,hc1,hc2,hs⟩:=h.open_;obtain⟨ys,B,d,rfl,g1,g2,g3,gc1,gc2,gs⟩:=h'.open_;have hxl:xs.length≤8000000000000:=Qap (K8 h3 (by rw[h1];exact hb)) XP
 have hyl2:2≤ys.length:=by
  rcases Qae ys.length 2 with hl | hl
  ·have h8:=xj g2
   have:WB^ys.length≤WB^1:=Qai (by decide) (by omega);rw[Qbc,g1] at *;omega
  ·exact hl
 have hlen:ys.length≤xs.length:=by
  rcases Qae xs.length ys.length with hl | hl
  ·have:=Qb h2 g3 hl;omega
  ·exact hl
 obtain⟨n,hn⟩:∃n,ys.length=n+1:=⟨ys.length-1,by omega⟩
 obtain⟨m,hm⟩:∃m,n=m+1:=⟨n-1,by omega⟩
 have hlastp:0<ys[n]?.getD 0:=by
  have hl:=Km g3 (by intro e;rw[e] at hn;simp at hn);rw[hn,Qb1] at hl;have hY:=qt ys n;rw[Qad (by omega)] at hY;have hlow:=xj (yR g2 n);rw[Qak,QaJ (by omega)] at hlow;rcases QaA (ys[n]?.getD 0) with h0 | h0
  ·rw[h0,QbF] at hY;omega
  ·exact h0
 have hlastw:=ka g2 n;obtain⟨l1,l2,l3,l4⟩:=XW hlastp hlastw
 obtain⟨s,hs64⟩:∃s:Nat,s+Lib.bitLen (ys[n]?.getD 0)=64:=⟨64-Lib.bitLen (ys[n]?.getD 0),by omega⟩
 have hss:s<64:=by omega
 have hse:(64:Int)-(Lib.bitLen (ys[n]?.getD 0):Int)=(s:Int):=by omega
 have LZ:=hid (Tryz.bits_LeadingZeros64 ((ys[n]?.getD 0:Nat):Int) w (by omega) (by unfold WB at hlastw;omega));rw[Qcl,hse] at LZ;have LF:=hid (fun (L:List Nat) a b c=>Bl (L:=L) hn g2 hs64 hlastp a b c);have SB:=hid (fun (W:World) (hB:Below w.heap.size w W)=>Ed B d ys s W (gs.below hB) g2 (by omega) hss);have SA:=hid (fun (W:World) (hB:Below w.heap.size w W)=>Ed A c xs s W (hs.below hB) h2 (by omega) hss);obtain⟨b1,KP,rfl,hbb1,hcell1⟩:=gs.at_ (k:=n) (by rw[jB];omega);have hcl:=(hcell1 n (by rw[jB];omega)).trans (jP ys n (by omega));have HX:=hid h1;have HY:=hid g1;have HP:0<2^s:=Qbs s
 obtain⟨M,hM⟩:∃M,xs.length=n+M+1:=⟨xs.length-n-1,by omega⟩
 have hmk:=fun W=>yK W (M+1) (by omega)
 have HO2:=hid h2;have Hxl:=hid hM;have Hm:=hid hm;have Hn:=hid hn;have HXl:Hid (jd xs<WB^(n+M+1)):=hid (by rw[←hM];exact xj h2);have HYl:Hid (WB^n≤jd ys):=hid (by have:=Km g3 (by intro e;rw[e] at hn;simp at hn);rwa [hn,Qb1] at this)
 have hnb:n+M+1≤8000000000000:=by omega
 rw[hn] at SB ⊢;rw[hM] at SA ⊢;clear h h' hs gs hcell1 hc1 hc2 gc1 gc2 h1 g1 h3 g3 g2 h2 hlen hyl2 l1 l2 l3 l4 hlastp hlastw hse hs64;clear hm hn hM;generalize ys[n]?.getD 0=z at *;go_enter Tryz.func164,Tryz.ntmps164
 go_wp2_with fail
 refine LZ.out.mono ?_;rintro e w0 ⟨rfl,rfl⟩
 go_wp2_with fail
 refine(SB.out _ (Below.refl _ _)).mono ?_;rintro e w1 ⟨LB,he,hOB,hLBl,oLB,hLBv,hB1⟩;rw[Hn.out] at he hLBl;subst he;have HB1:=hid hB1;have HOB:=hid hOB;have hgd:=hOB.lt;obtain⟨hV1,hV2⟩:=LF.out LB hLBl oLB hLBv;have HV:=hid (And.intro hV1 hV2);have HvO:Hid (jJ (LB.take (n+1))):=hid (yR oLB _);have Hvl:Hid ((LB.take (n+1)).length=n+1):=hid (by rw[Qak];omega)
 have HDV:Hid (Sl w1 1 (.slice (some ⟨w0.heap.size,0,none⟩) (n+1) (n+2)) (jz (LB.take (n+1)))):=hid (by
  have:=Yf (o:=0) (k:=n+1) (cap:=n+2) hOB (by omega) (by omega) (by omega) (by omega)
  rwa [Qa0] at this)
 clear LZ SB hB1 hOB LF hV1 hV2 hLBv oLB hLBl;generalize LB.take (n+1)=vs at *
 go_wp2_with fail
 refine(SA.out _ HB1.out).mono ?_;rintro e w2 ⟨LA,he,hOA,hLAl,oLA,hLAv,hB2⟩;rw[Hxl.out] at he hLAl;subst he;have HB2:=hid (HB1.out.trans (hB2.mono HB1.out.size));have HOA:=hid hOA;have hgw:=hOA.lt;have hgw1:w0.heap.size<w1.heap.size:=hgd;have HDV2:=hid (HDV.out.below hB2);have HLA:=hid (And.intro hLAl (And.intro oLA hLAv));have HLAv:=hid hLAv;have hmk2:=hmk w2;rw[show ((M+1:Nat):Int)=(n:Int)+(M:Int)+1-((n:Int)+1)+1 by omega] at hmk2
 have HI0:Hid (Kt LA vs LA (List.replicate (M+1) 0) w0 (w2.alloc (.cells (jz (List.replicate (M+1) 0)).toArray 89)) w0.heap.size w1.heap.size w2.heap.size (M+1)):=hid ⟨Dw.start oLA (by rw[Hvl.out];omega) (Pv hLAv HXl.out (by rw[HV.out.1];exact Qas _ HYl.out) (by omega) HP),hOA.alloc _,ja.make _ _ _,(by
  rw[Hvl.out];exact HDV2.out.below ((Below.refl _ _).alloc (Nat.le_refl _) _)),HB2.out.alloc (by have:=HB2.out.size;omega) _⟩
 clear SA hB2 hOA hLAl oLA hLAv HOB HDV hmk HXl HYl
 go_wp2_with fail
 clear hmk2
 go_loopg [10] (M+1) (fun gh i wr=>∃(z:Int) (Mm Q:List Nat),i = .int .i64 z∧z+1=(gh:Int)∧gh≤M+1∧Hid (Kt LA vs Mm Q w0 wr w0.heap.size w1.heap.size w2.heap.size gh))
 case atStart=>exact⟨(M:Int),LA,_,by go_num,by omega,Nat.le_refl _,HI0⟩
 case round=>
  clear HI0;obtain⟨z,Mm,Q,rfl,hz,hgh,hI⟩:=hrel
  have hMl:Mm.length=n+M+1+1:=by rw[hI.out.dv.len];exact HLA.out.1
  have hQl:Q.length=M+1:=by have:=hI.out.dv.qlen;rw[Hvl.out,HLA.out.1] at this;omega
  cases gk with
  | zero=>
   obtain rfl:z = -1:=by omega
   have hin:¬(0:Int) ≤ -1:=by decide
   obtain⟨hq,hr⟩:=hI.out.dv.last
   have hMlt:jd Mm<jd vs:=by have:=hI.out.dv.lt;rwa [Qa0] at this
   have hcut:=JP Mm (n+1) (by omega);have hvlt:=xj HvO.out;rw[Hvl.out] at hvlt
   have h0:jd (Mm.drop (n+1))=0:=by
    rcases QaA (jd (Mm.drop (n+1))) with h | h
    ·exact h
    ·have:WB^(n+1)*1≤WB^(n+1)*jd (Mm.drop (n+1)):=Qan _ h
     omega
   rw[h0,QbF,Qbf] at hcut
   have hTl:(Mm.take (n+1)).length=n+1:=by rw[Qak];omega
   have hwin:=Yf (o:=0) (k:=n+1) (cap:=n+M+1+1) hI.out.own (by omega) (by omega) (by omega) (by omega);rw[Qa0] at hwin;have SR:=OG (some ⟨w1.heap.size,0,none⟩) (n+M+1+1) (Mm.take (n+1)) s wr.drew (by rw[hTl];exact hwin.below (Below.refl _ _).drew) (yR hI.out.dv.ok _) (by omega) hss;rw[hTl] at SR;have HSR:=hid SR;have hall:=C6 (cap:=M+1) hI.out.quo (by omega) (by omega) (by omega);have hsl:=hall;rw[hQl] at hsl;have hpre:=hsl.take (k:=(jH Q).length) (by rw[←hQl];exact Ko Q);rw[ET,Ia] at hpre;have hqN:Nt wr.drew (.slice (some ⟨w2.heap.size,0,none⟩) (jH Q).length (M+1)) (jd Q):=Nt.of_trim hI.out.dv.qok (hpre.below (Below.refl _ _).drew)
   have hTR:Calls Tryz.prog 104 #[.slice (some ⟨w2.heap.size,0,none⟩) (M+1) (M+1)] wr.drew (fun e w'=>e = .returned (.slice (some ⟨w2.heap.size,0,none⟩) (jH Q).length (M+1))∧w'=wr.drew):=by
    have h:=UO (some ⟨w2.heap.size,0,none⟩) (M+1) Q wr.drew (hall.below (Below.refl _ _).drew);rw[hQl] at h
    exact h.mono fun e w' ⟨k1,_,k3⟩=>⟨k1,k3.symm⟩
   generalize hqv:Value.slice (some ⟨w2.heap.size,0,none⟩) (jH Q).length (M+1)=qv at hTR hqN;have HTR:=hid hTR;have HqN:=hid hqN;have HB:=hid hI.out.blw;have hHX:=HX.out;have hHY:=HY.out
   have HQv:Hid (jd Q=x/y):=hid (by
    rw[hq,HLAv.out,HV.out.1,hHX,hHY];exact Nat.mul_div_mul_right _ _ HP)
   have HRv:Hid (jd (Mm.take (n+1))/2^s=x%y):=hid (by
    rw[←hcut,hr,HLAv.out,HV.out.1,hHX,hHY,Qci,Nat.mul_div_cancel _ HP])
   clear hq hr hMlt hcut hvlt h0 hTl hwin SR hall hTR hqN hI hsl hpre hqv
   have hs1:(0:Int)≤(n:Int)+1:=by omega
   have hs2:(n:Int)≤(n:Int)+(M:Int)+1:=by omega
   go_upto_region 15 with fail
   refine wp_region_still_tail 6 (by kernel_rfl) (by kernel_rfl) ?_;simp only[QbK,QbL,Qcb,Qa0];change wpStill _ _ wr.drew (fun a'=>wpList _ _ _ _ a' wr.drew) _ _
   repeat still_step
   still_call HTR.out
   repeat still_step
   refine wpStill_nil ?_
   go_wp2_with fail
   refine HSR.out.mono ?_;rintro e w5 ⟨rv,rfl,hrN,hB5⟩;have HrN:=hid hrN;have HB5:=hid hB5;clear hrN hB5
   go_wp2
   go_ret2;exact⟨qv,rv,rfl,by rw[←HQv.out];exact HqN.out.below HB5.out,by rw[←HRv.out];exact HrN.out,HB.out.drew.trans (HB5.out.mono HB.out.size)⟩
  | succ j=>
   obtain rfl:z=(j:Int):=by omega
   have hin:(0:Int)≤(j:Int):=by omega
   have hj1:j+vs.length<Mm.length:=by rw[Hvl.out];omega
   have hpart:=hI.out.dv.part HvO.out hj1;have hup:=hI.out.dv.up (by omega);rw[hpart] at hup;have hwin:=Yf (o:=j) (k:=m+3) (cap:=n+M+1+1-j) hI.out.own (by have:=Hm.out;omega) (by have:=Hm.out;omega) (by omega) (by omega);have hdv:=hI.out.div
   have GQ:=Ah (some ⟨w1.heap.size,j,none⟩) (some ⟨w0.heap.size,0,none⟩) (n+M+1+1-j) (vs.length+1) m ((Mm.drop j).take (m+3)) vs wr hwin (by
    rw[show m+2=vs.length by rw[Hvl.out,Hm.out]];exact hdv) (yR (EY hI.out.dv.ok _) _) HvO.out (by rw[Qak,Qa3];have:=Hm.out;omega) (by rw[Hvl.out,Hm.out]) (by
    rw[show m+3=vs.length+1 by rw[Hvl.out,Hm.out]];exact hup) (by have:=HV.out.2;rwa [Hm.out] at this) (by have:=Hm.out;omega)
   rw[show m+3=vs.length+1 by rw[Hvl.out,Hm.out],show m+2=vs.length by rw[Hvl.out,Hm.out]] at GQ;rw[Hvl.out] at GQ;have HGQ:=hid GQ;have HE:Hid (JS vs Q w0 wr w0.heap.size w1.heap.size w2.heap.size):=hid ⟨hI.out.quo,hI.out.div,hI.out.blw,by omega,by have:=hgw;omega,by have:=hgw;omega,by omega,by have:=hgw;omega⟩;have HJ:=hid hj1
   have hL1:j+(n+1)+1-j=n+1+1:=by omega
   clear GQ hwin hdv hup hpart hj1
   go_wp2_with fail
   rw[hL1];refine HGQ.out.mono ?_;rintro e w3 ⟨t,rfl,hdig,hB3⟩;rw[←Hvl.out] at hdig;change yU WB (kP Mm j (vs.length+1)) (jd vs) t at hdig;have HDg:=hid hdig;have HI3:=hid (hI.out.below hB3);have HE3:Hid (JS vs Q w0 w3 w0.heap.size w1.heap.size w2.heap.size):=hid ⟨HI3.out.quo,HI3.out.div,HI3.out.blw,HE.out.a1,HE.out.a2,HE.out.a3,HE.out.b1,HE.out.b2⟩;have SP:=hid (Pd (some ⟨w0.heap.size,0,none⟩) w1.heap.size j (n+M+1+1-j) (vs.length+1) t Mm vs w3 HI3.out.own HI3.out.div (fun b off e=>by injection e with e;injection e with e _ _;subst e;exact HE.out.a1) HI3.out.dv.ok HvO.out hdig.1 HJ.out (by omega));rw[Hvl.out] at SP;clear HGQ hdig hB3 hI HE
   go_wp2_with fail
   refine SP.out.mono ?_;rintro e w4 ⟨br,M1,rfl,hO1,hbut,hsame,hbr,hval⟩;rw[←Hvl.out] at hsame hval;have HE4:=hid (HE3.out.but hbut);have HO1:=hid hO1;have HS1:=hid hsame;have HVl:=hid hval;clear SP hO1 hbut hsame hval HE3;by_cases hb0:br=0
   ·subst hb0
    obtain⟨f1,f2⟩:=DS HDg.out HVl.out rfl;have HNew:=hid (HE4.out.done HO1.out (HI3.out.dv.step HvO.out (by omega) HS1.out f1 f2 HDg.out.1));have hqc:=(HE4.out.quo.cell j).trans (jP Q j (by omega));have hqf:=HE4.out.quo.free j;have hql:=HE4.out.quo.lt;clear f1 f2 HE4 HO1 HI3 HS1 HVl HDg;generalize Q[j]?.getD 0=q0 at *
    go_wp2
    go_roundg j
    case rel=>exact⟨(j:Int)-1,_,_,by go_num,by omega,by omega,HNew⟩
    case measure=>omega
   ·have hb1:br=1:=by omega
    subst hb1;have hM1l:=HS1.out.len;have AB:=hid (SD (some ⟨w0.heap.size,0,none⟩) w1.heap.size j (n+M+1+1-j) (vs.length+1) M1 vs w4 HO1.out HE4.out.div (fun b off e=>by injection e with e;injection e with e _ _;subst e;exact HE4.out.a1) HS1.out.ok HvO.out (by rw[hM1l];exact HJ.out) (by omega));rw[Hvl.out] at AB
    obtain⟨t',ht'⟩:∃t',t=t'+1:=by
     rcases QaA t with h0 | h0
     ·have hx:=HDg.out
      have hy:=HVl.out;rw[h0,QbF] at hy;have:=UW HS1.out.ok j (vs.length+1) (by rw[hM1l];have:=HJ.out;omega);omega
     ·exact⟨t-1,by omega⟩
    have wa:IntKind.u64.wrap ((t:Int)-1)=(t':Int):=by
     rw[show (t:Int)-1=(t':Int) by omega];exact wrap_u64 _ (by have:=HDg.out.1;omega)
    have Ht':=hid ht';have Hbr:=hid hbr;clear ht' hb0 hbr
    go_wp2_with fail
    refine AB.out.mono ?_;rintro e w5 ⟨rfl,cr,M2,hO2,hbut,hsame,hval⟩;rw[←Hvl.out] at hsame hval;have HE5:=hid (HE4.out.but hbut);have HO2:=hid hO2
    have hS2:y6 Mm M2 j (vs.length+1):=⟨hsame.len.trans hM1l,hsame.ok,hsame.low.trans HS1.out.low,hsame.high.trans HS1.out.high⟩
    have hVW:jd vs<WB^(vs.length+1):=by
     have h1:=xj HvO.out;have h2:WB^vs.length≤WB^(vs.length+1):=Qai (by decide) (by omega);omega
    obtain⟨f0,f1,f2⟩:=DR HDg.out (UW HS1.out.ok j (vs.length+1) (by rw[hM1l];have:=HJ.out;omega)) (UW hS2.ok j (vs.length+1) (by rw[hS2.len];have:=HJ.out;omega)) hVW HVl.out hval rfl
    have htp:t-1=t':=by have:=Ht'.out;omega
    rw[htp] at f1;have HNew:=hid (HE5.out.done HO2.out (HI3.out.dv.step HvO.out (by omega) hS2 f1 f2 (by have:=HDg.out.1;have:=Ht'.out;omega)));have hqc:=(HE5.out.quo.cell j).trans (jP Q j (by omega));have hqf:=HE5.out.quo.free j;have hql:=HE5.out.quo.lt;clear f0 f1 f2 HE5 HE4 HO1 HO2 HI3 HS1 HVl HDg hS2 hVW hO2 hbut hsame hval AB hM1l htp wa;generalize Q[j]?.getD 0=q0 at *
    go_wp2
    go_roundg j
    case rel=>exact⟨(j:Int)-1,_,_,by go_num,by omega,by omega,HNew⟩
    case measure=>omega
end Go.Proofs.YteagkgagdelklaaGreatDoor
namespace Go.Proofs.YteagkgagdelklaaGreatDoor
open Go.RowKit
def yT (x:Nat):Prop:=x<WB^(zG+1)
theorem kr.one {x:Nat} (h:kr x):yT x:=Qac h (Qai (by decide) (Nat.le_succ _))
theorem yT.len {ws:List Nat} (h:kp ws) {x:Nat} (hx:jd ws=x) (hf:yT x):ws.length≤8000000000001:=by
 have h1:ws.length≤zG+1:=K8 h (by rw[hx];exact hf);have h2:=XP;omega
theorem kr.le {x y:Nat} (h:kr x) (hle:y≤x):kr y:=Qax hle h
theorem Fv {B n x f:Nat} (h:x<B^n) (hf:f<B):x*f<B^(n+1):=by
 rw[QaD];exact Qcc h hf
theorem kr.times {x f:Nat} (h:kr x) (hf:f<WB):yT (x*f):=Fv h hf
theorem Cc (v u:Value) (x y:Nat) (w:World) (h:Nt w v x) (h':Nt w u y) (hle:y≤x) (hf:yT x):
  Calls Tryz.prog 184 #[v,u] w fun e w'=>∃v,e = .returned v∧Nt w' v (x-y)∧Below w.heap.size w w':=by
 obtain⟨xs,A,c,rfl,h1,h2,h3,hc1,hc2,hs⟩:=h.open_;obtain⟨bs,B,d,rfl,g1,g2,g3,gc1,gc2,gs⟩:=h'.open_;have hlen:=yT.len h3 h1 hf;subst h1 g1
 have hbl:bs.length≤xs.length:=by
  rcases Qae xs.length bs.length with hl | hl
  ·have:=Qb h2 g3 hl;omega
  ·exact hl
 have hmk:=yK w xs.length (by omega);clear h h';go_enter Tryz.func184,Tryz.ntmps184
 go_wp2
 go_loopw [6,7,8,15] (fun br _ _ i wr=>∃(k b:Nat) (L:List Nat),i = .int .i64 k∧br = .int .u64 b∧k≤bs.length∧Hid (xo xs bs L k b)∧ja wr w.heap.size 89 (jz L)∧Below w.heap.size w wr) (fun _ _ _ i _=>bs.length-(intOf i).toNat)
 case atStart=>exact⟨0,0,_,rfl,rfl,by omega,Lib.hid (xo.start xs bs),ja.make _ _ _,(Below.refl _ _).alloc (Nat.le_refl _) _⟩
 case round=>
  obtain⟨k,b,L,rfl,rfl,hk,hI,hO,hB⟩:=hrel;have hb1:b≤1:=hI.out.2.2.1;have hLl:L.length=xs.length:=hI.out.1;by_cases hlt:k<bs.length
  ·obtain⟨b0,off,rfl,hbb,hcell⟩:=hs.at_ (k:=k) (by rw[jB];omega)
   obtain⟨b1,off1,rfl,hbb1,hcell1⟩:=gs.at_ (k:=k) (by rw[jB];omega);have hck:=(hB.cell (p:=⟨b0,off+k,none⟩) hbb).trans ((hcell k (by rw[jB];omega)).trans (jP xs k (by omega)));have hck1:=(hB.cell (p:=⟨b1,off1+k,none⟩) hbb1).trans ((hcell1 k (by rw[jB];omega)).trans (jP bs k (by omega)));have hck2:=(hO.cell k).trans (jP L k (by omega));have hfr:=hO.free k;have hwx:=ka h2 k;have hwy:=ka g2 k
   have Hst:=fun d br' a1 a2 a3=>Lib.hid (xo.step hI.out (d:=d) (br':=br') (by omega) a1 a2 a3)
   generalize xs[k]?.getD 0=x at *;generalize bs[k]?.getD 0=y at *;generalize L[k]?.getD 0=z at *;clear hcell hcell1 hs gs hLl;unfold WB at hwx hwy
   have hlk:k<xs.length:=by omega
   go_wp2_with (first | simp only[Yt (x:Int) (y:Int) (b:Int) (by omega) (by omega) (by omega) (by omega) (by omega) (by omega)])
   obtain⟨d,br,e1,e2,a1,a2,a3⟩:=UK x y b hwx hwy hb1;rw[e1,e2];refine⟨⟨k+1,br,_,by go_num,rfl,by omega,Hst d br a1 a2 a3,?_,hB.setCell (by simp) _⟩,by simp[intOf];omega⟩;rw[←kN];exact hO.put k _
  ·have hkk:k=bs.length:=by omega
   subst hkk
   go_wp2
   go_loopw [6,9] (fun br i wr=>∃(k b:Nat) (L:List Nat),i = .int .i64 k∧br = .int .u64 b∧bs.length≤k∧k≤xs.length∧Hid (xo xs bs L k b)∧ja wr w.heap.size 89 (jz L)∧Below w.heap.size w wr) (fun _ i _=>xs.length-(intOf i).toNat)
   case atStart=>exact⟨bs.length,b,L,rfl,rfl,by omega,by omega,hI,hO,hB⟩
   case round=>
    clear hI hO hB hb1 hLl;obtain⟨k,b,L,rfl,rfl,hk1,hk,hI,hO,hB⟩:=hrel;have hb1:b≤1:=hI.out.2.2.1;have hLl:L.length=xs.length:=hI.out.1;by_cases hlt:k<xs.length
    ·obtain⟨b0,off,rfl,hbb,hcell⟩:=hs.at_ (k:=k) (by rw[jB];omega)
     have hck:=(hB.cell (p:=⟨b0,off+k,none⟩) hbb).trans ((hcell k (by rw[jB];omega)).trans (jP xs k (by omega)));have hck2:=(hO.cell k).trans (jP L k (by omega));have hfr:=hO.free k;have hwx:=ka h2 k
     have hz:bs[k]?.getD 0=0:=by rw[Qah (by omega)];rfl
     have Hst:=fun d br' a1 a2 a3=>Lib.hid (xo.step hI.out (d:=d) (br':=br') (by omega) a1 a2 a3)
     rw[hz] at Hst;clear hz;generalize xs[k]?.getD 0=x at *;generalize L[k]?.getD 0=z at *;clear hcell hs gs hLl;unfold WB at hwx
     go_wp2_with (first | simp only[Ek (x:Int) (b:Int) (by omega) (by omega) (by omega) (by omega)])
     obtain⟨d,br,e1,e2,a1,a2,a3⟩:=En x b hwx hb1;rw[e1,e2];refine⟨⟨k+1,br,_,by go_num,rfl,by omega,by omega,Hst d br a1 a2 a3,?_,hB.setCell (by simp) _⟩,by simp[intOf];omega⟩;rw[←kN];exact hO.put k _
    ·have hkk:k=xs.length:=by omega
     subst hkk;have hval:=Lib.hid (hI.out.last hbl hle);have hok:=hI.out.2.1;have hsl:=hO.sl xs.length (by rw[jB];omega) (by omega)
     go_wp2_with (go_at_call 104;refine(zP _ _ _ _ _ hok hsl).mono ?_;rintro e w' ⟨v,rfl,hv,rfl⟩)
     go_ret;refine⟨v,rfl,?_,hB⟩;rw[←hval.out];exact hv
theorem EB (v:Value) (x f a:Nat) (w:World) (h:Nt w v x) (hfw:f<WB) (haw:a<WB) (hf:yT x):
  Calls Tryz.prog 57 #[v,.int .u64 f,.int .u64 a] w fun e w'=>∃v,e = .returned v∧Nt w' v (x*f+a)∧Below w.heap.size w w':=by
 obtain⟨xs,A,c,rfl,h1,h2,h3,hc1,hc2,hs⟩:=h.open_;have hlen:=yT.len h3 h1 hf;subst h1;have hmk:=yK w (xs.length+1) (by omega);rw[show ((xs.length+1:Nat):Int)=(xs.length:Int)+1 from by omega] at hmk;have hstart:=Lib.hid (yj.start xs f a haw);have hown:=ja.make w 89 (jz (List.replicate (xs.length+1) 0));have hown2:=hown.put 0 (.int .u64 (a:Int));rw[kN] at hown2;have hck2:=(hown.cell 0).trans (jP _ 0 (by simp));have hfr:=hown.free 0;rw[show (List.replicate (xs.length+1) 0)[0]?.getD 0=0 from by simp] at hck2
 obtain⟨w1,hw1⟩:∃w1,w1=w.alloc (.cells (jz (List.replicate (xs.length+1) 0)).toArray 89):=⟨_,rfl⟩
 rw[←hw1] at hmk hown hown2 hck2 hfr
 have hB1:Below w.heap.size w w1:=by rw[hw1];exact(Below.refl _ _).alloc (Nat.le_refl _) _
 clear h hw1;go_enter Tryz.func57,Tryz.ntmps57
 go_wp2
 go_loopw [8,9,10,11,12,22] (fun _ _ _ _ _ i wr=>∃(k:Nat) (L:List Nat),i = .int .i64 k∧k≤xs.length∧Hid (yj xs L f a k)∧ja wr w.heap.size 89 (jz L)∧Below w.heap.size w wr) (fun _ _ _ _ _ i _=>xs.length-(intOf i).toNat)
 case atStart=>exact⟨0,_,rfl,by omega,hstart,hown2,hB1.setCell (by simp) _⟩
 case round=>
  clear hown hown2 hck2 hfr;obtain⟨k,L,rfl,hk,hI,hO,hB⟩:=hrel;have hLl:L.length=xs.length+1:=hI.out.1;by_cases hlt:k<xs.length
  ·obtain⟨b0,off,rfl,hbb,hcell⟩:=hs.at_ (k:=k) (by rw[jB];omega)
   have hck:=(hB.cell (p:=⟨b0,off+k,none⟩) hbb).trans ((hcell k (by rw[jB];omega)).trans (jP xs k (by omega)));have hck2:=(hO.cell k).trans (jP L k (by omega));have hck3:=(hO.cell (k+1)).trans (jP L (k+1) (by omega));have hfr:=hO.free k;have hfr3:=hO.free (k+1);have hwx:=ka h2 k;have hwz:=ka hI.out.2.1 k;obtain⟨m1,m2,m3,m4⟩:=Gs _ f hwx hfw
   have Hst:=fun d c hi lo a1 a2 a3 a4=>Lib.hid (yj.step hI.out (d:=d) (c:=c) (hi:=hi) (lo:=lo) (by omega) a1 a2 a3 a4)
   have hm4:=m4 _ hwz;generalize xs[k]?.getD 0=x at *;generalize L[k]?.getD 0=z at *;generalize L[k+1]?.getD 0=z1 at *;generalize hhi:x*f/WB=hi at *;generalize hlo:x*f%WB=lo at *;obtain⟨d,cr,e1,e2,a1,a2,a3⟩:=Kx z lo hwz m3;have Hm2:=Lib.hid m2.symm
   have hbd:(hi:Int)+cr≤18446744073709551615:=by
    have:(z+lo)/WB=cr:=by unfold WB at *;omega
    unfold WB at *;omega
   have Hs2:=Hst d cr hi lo a1 (by unfold WB;omega) m2.symm a3
   have Hmul:=fun w=>QB x f hi lo w hwx hfw Hm2.out m3
   have Hadd:=fun w=>Qi (z:Int) (lo:Int) (by omega) (by unfold WB at hwz;omega) (by omega) (by unfold WB at m3;omega) w
   rw[e1,e2] at Hadd;have HMul:=Lib.hid Hmul;clear Hmul hcell hs hLl m1 m2 m4 hm4 Hst hhi hlo hwx hwz m3 a3 a1 e1 e2
   go_wp2_with (first | (go_at_call 102;refine(HMul.out _).mono ?_;rintro e w' ⟨rfl,rfl⟩))
   refine⟨⟨k+1,_,by go_num,by omega,Hs2,?_,(hB.setCell (by simp) _).setCell (by simp) _⟩,by simp[intOf];omega⟩;have:=(hO.put k (.int .u64 (d:Int))).put (k+1) (.int .u64 ((hi+cr:Nat):Int));rw[kN,kN] at this;simpa using this
  ·have hkk:k=xs.length:=by omega
   subst hkk;have hval:=Lib.hid hI.out.last;have hok:=hI.out.2.1;have hsl:=Lib.hid (hO.sl (xs.length+1) (by rw[jB];omega) (by omega));clear hLl
   go_wp2_with (go_at_call 104;refine(zP _ _ _ _ _ hok hsl.out).mono ?_;rintro e w' ⟨v,rfl,hv,rfl⟩)
   go_ret;refine⟨v,rfl,?_,hB⟩;rw[←hval.out];exact hv
theorem Zh (v:Value) (x b:Nat) (w:World) (h:Nt w v x) (hb0:0<b) (hbw:b<WB) (hf:yT x):
  Calls Tryz.prog 105 #[v,.int .u64 b] w fun e w'=>∃v,e = .returned (.tuple #[v,.int .u64 ((x%b:Nat):Int)])∧Nt w' v (x/b)∧Below w.heap.size w w':=by
 obtain⟨xs,A,c,rfl,h1,h2,h3,hc1,hc2,hs⟩:=h.open_;have hlen:=yT.len h3 h1 hf;clear hf;subst h1;have hmk:=yK w xs.length (by omega);clear h;go_enter Tryz.func105,Tryz.ntmps105
 go_wp2
 go_loopw [5,6] (fun r i wr=>∃(k b0:Nat) (L:List Nat),i = .int .i64 ((k:Int)-1)∧r = .int .u64 b0∧k≤xs.length∧Hid (k=xs.length→b0=0)∧Hid (yV xs L b k b0)∧ja wr w.heap.size 89 (jz L)∧Below w.heap.size w wr) (fun _ i _=>(intOf i+1).toNat)
 case atStart=>exact⟨xs.length,0,_,rfl,rfl,by omega,Lib.hid (fun _=>rfl),Lib.hid (yV.start xs b hb0),ja.make _ _ _,(Below.refl _ _).alloc (Nat.le_refl _) _⟩
 case round=>
  obtain⟨k,r,L,rfl,rfl,hk,hZ,hI,hO,hB⟩:=hrel;have hLl:L.length=xs.length:=hI.out.1;have hrb:r<b:=hI.out.2.2.1;by_cases hk0:k=0
  ·subst hk0
   obtain⟨q1,q2⟩:=hI.out.last;have Q1:=Lib.hid q1;have Q2:=Lib.hid q2;clear q1 q2;have hok:=hI.out.2.1;have hsl:=Lib.hid (hO.sl xs.length (by rw[jB];omega) (by omega));clear hLl
   go_wp2_with (go_at_call 104;refine(zP _ _ _ _ _ hok hsl.out).mono ?_;rintro e w' ⟨v,rfl,hv,rfl⟩)
   go_ret2;refine⟨v,by rw[←Q2.out];rfl,?_,hB⟩;rw[←Q1.out];exact hv
  ·obtain⟨j,rfl⟩:∃j,k=j+1:=⟨k-1,by omega⟩
   rw[show ((j+1:Nat):Int)-1=(j:Int) from by omega];obtain⟨b0,off,rfl,hbb,hcell⟩:=hs.at_ (k:=j) (by rw[jB];omega);clear hZ;have hck:=(hB.cell (p:=⟨b0,off+j,none⟩) hbb).trans ((hcell j (by rw[jB];omega)).trans (jP xs j (by omega)));have hck2:=(hO.cell j).trans (jP L j (by omega));have hfr:=hO.free j;have hwx:=ka h2 j;have Hst:=Lib.hid (hI.out.step (by omega) hb0 (VU hrb hwx));have Hdm:=Lib.hid (QaP (r*WB+xs[j]?.getD 0) b);have hrm:(r*WB+xs[j]?.getD 0)%b<b:=QaI _ hb0;generalize xs[j]?.getD 0=x at *;generalize L[j]?.getD 0=z at *;generalize (r*WB+x)/b=q at *;generalize (r*WB+x)%b=r' at *;have Hdiv:=Lib.hid (fun w=>Zf r x b q r' w hrb hwx hbw (by rw[Qam q b];exact Hdm.out.symm) hrm)
   have hlj:j<xs.length:=by omega
   clear hcell hs hLl hwx Hdm hrm
   go_wp2_with (first | (go_at_call 144;refine(Hdiv.out _).mono ?_;rintro e w' ⟨rfl,nq,rfl⟩))
   refine⟨⟨j,r',_,by go_num,rfl,by omega,Lib.hid (fun h=>by omega),Hst,?_,?_⟩,by simp[intOf]⟩
   ·rw[←kN];exact(hO.drewN nq).put j _
   ·exact(below_drewN hB nq).setCell (by simp) _
theorem VW (v u:Value) (x y:Nat) (w:World) (h:Nt w v x) (h':Nt w u y) (hy:0<y) (hf:kr x):
  Calls Tryz.prog 128 #[v,u] w (XF x y w):=by
 by_cases hlt:x<y
 ·have ho:=Lib.hid (JI hlt)
  have hq:x/y=0:=Qbt hlt;have hm:x%y=x:=Qbm hlt;unfold XF;rw[hq,hm];clear hq hm;obtain⟨A,n,c,hv,_⟩:=h.size_;obtain⟨B,m,d,hu,_⟩:=h'.size_;have Hh:=Lib.hid h;clear h;have Hh':=Lib.hid h';clear h';subst hv hu;go_enter Tryz.func128,Tryz.ntmps128
  go_wp2_with (first | (go_at_call 125;refine(xq _ _ _ _ _ Hh.out Hh'.out).mono ?_;rintro e w' ⟨rfl,n,rfl⟩;rw[ho.out]))
  go_ret2;exact⟨_,_,rfl,Nt.nil,Hh.out.drewN _,below_drewN (Below.refl _ _) _⟩
 ·have ho:=Kb (Nat.not_lt.1 hlt)
  by_cases hw:y<WB
  ·obtain⟨A,n,c,hv,_⟩:=h.size_
   obtain⟨b,off,d,hu,hb,hcell⟩:=h'.one_word hy hw;have Hh:=Lib.hid h;clear h;have Hh':=Lib.hid h';clear h';subst hv hu;go_enter Tryz.func128,Tryz.ntmps128
   go_wp2_with fail
   refine(xq _ _ _ _ _ Hh.out Hh'.out).mono ?_;rintro e w' ⟨rfl,n,rfl⟩
   go_wp2_with fail
   refine(Zh _ x y _ (Hh.out.drewN n) hy hw hf.one).mono ?_;rintro e w1 ⟨q,rfl,hq,hB⟩;have hmw:x%y<WB:=Qac (QaI _ hy) (Qbo hw)
   go_wp2_with fail
   refine(Ka (x%y) _ hmw).mono ?_;rintro e w2 ⟨r,rfl,hr,hB2⟩
   go_wp2
   go_ret2;exact⟨q,r,rfl,hq.below hB2,hr,(below_drewN (Below.refl _ w) n).trans (hB.trans (hB2.mono hB.size))⟩
  ·obtain⟨A,n,c,hv,_⟩:=h.size_
   obtain⟨B,m,d,hu,hm2,_⟩:=h'.len_ge (Nat.not_lt.1 hw);have Hh:=Lib.hid h;clear h;have Hh':=Lib.hid h';clear h';subst hv hu
   have hb:((m:Int)==1)=false:=by simpa using (by omega:¬(m:Int)=1)
   go_enter Tryz.func128,Tryz.ntmps128
   go_wp2_with fail
   refine(xq _ _ _ _ _ Hh.out Hh'.out).mono ?_;rintro e w' ⟨rfl,n,rfl⟩
   go_wp2_with fail
   refine(WO _ _ x y _ (Hh.out.drewN n) (Hh'.out.drewN n) (Nat.not_lt.1 hw) (Nat.not_lt.1 hlt) hf).mono ?_;rintro e w1 ⟨q,r,rfl,hq,hr,hB⟩
   go_wp2
   go_ret2;exact⟨q,r,rfl,hq,hr,(below_drewN (Below.refl _ w) n).trans hB⟩
end Go.Proofs.YteagkgagdelklaaGreatDoor
namespace Go.Proofs.YteagkgagdelklaaGreatDoor
open Go.RowKit Go.Lib
theorem ER {x y s:Nat} (hx:x<2^(64-s)) (hy:y<WB) (hs:s<64):∃a d:Nat,IntKind.u64.wrap ((x:Int)*2^s)=(a:Int)∧(y:Int)/2^(64-s)=(d:Int)∧bits .or .u64 (a:Int) (d:Int)=((a+d:Nat):Int)∧bits .or .u64 0 (d:Int)=(d:Int)∧a=x*2^s∧d=y/2^(64-s)∧a+d<WB:=by
 have hP:0<2^s:=Qbs s
 have hPD:2^(64-s)*2^s=WB:=by rw[←Qbj,show 64-s+s=64 by omega]
 have cP:((2:Int)^s)=((2^s:Nat):Int):=by simp
 have cD:((2:Int)^(64-s))=((2^(64-s):Nat):Int):=by simp
 have hd:y/2^(64-s)<2^s:=QbT (by rw[hPD];exact hy)
 have hb:(x+1)*2^s≤WB:=by rw[←hPD];exact Qas _ hx
 rw[Qaz,Qbd] at hb
 have hsum:x*2^s+y/2^(64-s)<WB:=by omega
 have hor:x*2^s ||| y/2^(64-s)=x*2^s+y/2^(64-s):=by
  rw[Qam x];exact(Qch hd x).symm
 have hal:x*2^s<WB:=Qax (Qcn _ _) hsum;have hdl:y/2^(64-s)<WB:=Qax (Nat.le_add_left _ _) hsum;refine⟨x*2^s,y/2^(64-s),?_,by rw[cD,←Qbn],?_,?_,rfl,rfl,hsum⟩
 ·rw[cP,←QaM];exact wrap_u64 _ hal
 ·rw[bits_or_u64_nat _ _ hal hdl,hor]
 ·have:=bits_or_u64_nat 0 _ (by decide) hdl
  rw[Nat.zero_or] at this;exact this
def xw (xs:List Nat) (j s:Nat):Nat:=xs[j+1]?.getD 0*2^s+xs[j]?.getD 0/2^(64-s)
theorem E0 (A:Option Addr) (c:Nat) (xs:List Nat) (j s:Nat) (w:World) (hv:Sl w 1 (.slice A xs.length c) (jz xs)) (ok:jJ xs) (hx:xs[j+1]?.getD 0<2^(64-s)) (hs:s<64) (hl:xs.length≤8000000000001) (hj:j≤8000000000001):
  Calls Tryz.prog 201 #[.slice A xs.length c,.int .i64 ((j:Int)+1),.int .i64 s] w fun e w'=>e = .returned (.int .u64 (xw xs j s:Nat))∧w=w':=by
 obtain⟨a,d,f1,f2,f3,f4,f5,f6,f7⟩:=ER hx (ka ok j) hs;have HW:Hid (xw xs j s=a+d):=hid (by unfold xw;rw[f5,f6])
 have hji:((j:Int)+1)-1=(j:Int):=by omega
 by_cases hj1:j+1<xs.length
 ·have hin:(j:Int)+1<(xs.length:Int):=by omega
  have hin2:(j:Int)<(xs.length:Int):=by omega
  obtain⟨b0,off,rfl,hbb,hcell⟩:=hv.at_ (k:=j) (by rw[jB];omega);have c1:=(hcell j (by rw[jB];omega)).trans (jP xs j (by omega));have c2:=(hcell (j+1) (by rw[jB];omega)).trans (jP xs (j+1) hj1);have Hj:=hid hj1;rw[HW.out];clear hcell hv ok hx f5 f6 f7 hj1;generalize xs[j+1]?.getD 0=x at *;generalize xs[j]?.getD 0=y at *;go_enter Tryz.func201,Tryz.ntmps201
  go_wp2
  go_ret;exact⟨rfl,rfl⟩
 ·have hin:¬(j:Int)+1<(xs.length:Int):=by omega
  by_cases hj2:j<xs.length
  ·have hin2:(j:Int)<(xs.length:Int):=by omega
   obtain⟨b0,off,rfl,hbb,hcell⟩:=hv.at_ (k:=j) (by rw[jB];omega);have c1:=(hcell j (by rw[jB];omega)).trans (jP xs j (by omega))
   have ha0:a=0:=by rw[f5,Qah (by omega)];simp
   rw[HW.out,ha0,Qbi];have Hj:=hid (And.intro hj1 hj2);clear hcell hv ok hx f5 f6 f7 hj1 hj2 f1 f3 HW ha0;generalize xs[j]?.getD 0=y at *;go_enter Tryz.func201,Tryz.ntmps201
   go_wp2
   go_ret;exact⟨rfl,rfl⟩
  ·have hin2:¬(j:Int)<(xs.length:Int):=by omega
   have h0:xw xs j s=0:=by
    unfold xw;rw[Qah (by omega),Qah (by omega)];simp
   rw[h0];have Hj:=hid (And.intro hj1 hj2);clear hv ok hx f5 f6 f7 hj1 hj2 f1 f2 f3 f4 HW h0;go_enter Tryz.func201,Tryz.ntmps201
   go_wp2
   go_ret;exact⟨rfl,rfl⟩
theorem XE (v u:Value) (a b x y:Nat) (w:World) (hv:Nt w v a) (hu:Nt w u b) (ha:kr a) (hb:kr b) (hx:x<WB) (hy:y<WB) (hle:y*b≤x*a):
  Calls Tryz.prog 165 #[v,.int .u64 x,u,.int .u64 y] w fun e w'=>∃g,e = .returned g∧Nt w' g (x*a-y*b)∧Below w.heap.size w w':=by
 obtain⟨A,n,c,rfl,_⟩:=hv.size_;obtain⟨B,m,d,rfl,_⟩:=hu.size_;have TA:=hid (EB (.slice A n c) a x 0 w hv hx (by decide) ha.one);have TB:=hid (fun (W:World) (hB:Below w.heap.size w W)=>EB (.slice B m d) b y 0 W (hu.below hB) hy (by decide) hb.one);have MI:=hid (fun (p q:Value) (W:World) h1 h2=>Cc p q (a*x) (b*y) W h1 h2 (by rw[Qam b,Qam a];exact hle) (ha.times hx));rw[Qam x,Qam y];clear hv hu ha hb hx hy hle;go_enter Tryz.func165,Tryz.ntmps165
 go_wp2_with fail
 refine TA.out.mono ?_;rintro e w1 ⟨p,rfl,hp,hB1⟩;rw[Qbf] at hp;have Hp:=hid hp;have HB1:=hid hB1;clear hp hB1 TA
 go_wp2_with fail
 refine(TB.out _ HB1.out).mono ?_;rintro e w2 ⟨q,rfl,hq,hB2⟩;rw[Qbf] at hq;have Hq:=hid hq;have HB2:=hid hB2;clear hq hB2 TB
 go_wp2_with fail
 refine(MI.out p q _ (Hp.out.below HB2.out) Hq.out).mono ?_;rintro e w3 ⟨g,rfl,hg,hB3⟩;have HF:=hid (And.intro hg (HB1.out.trans ((HB2.out.trans (hB3.mono HB2.out.size)).mono HB1.out.size)));clear hg hB3
 go_wp2
 go_ret;exact⟨g,rfl,HF.out.1,HF.out.2⟩
theorem ES {xs:List Nat} {j s:Nat} (hl:xs.length≤j+2) (ok:jJ xs) (hs:s<64):∃r,jd xs=xw xs j s*(WB^j*2^(64-s))+r∧r<WB^j*2^(64-s):=by
 have hPD:2^(64-s)*2^s=WB:=by rw[←Qbj,show 64-s+s=64 by omega]
 have hD:0<2^(64-s):=Qbs _;have e1:=qt xs (j+1);rw[Qad (by omega),qt] at e1
 have hlow:jd (xs.take j)<WB^j:=by
  have h1:=xj (yR ok j);have h2:WB^(xs.take j).length≤WB^j:=Qai (by decide) (by rw[Qak];exact Nat.min_le_left _ _);omega
 unfold xw;have hdm:=QaP (xs[j]?.getD 0) (2^(64-s));have hml:=QaI (xs[j]?.getD 0) hD;generalize xs[j+1]?.getD 0=x1 at *;generalize xs[j]?.getD 0/2^(64-s)=q at *;generalize xs[j]?.getD 0%2^(64-s)=m at *;generalize xs[j]?.getD 0=x0 at *;generalize jd (xs.take j)=X at *;have p1:WB^(j+1)=WB^j*WB:=QaD ..;rw[p1] at e1;clear p1;generalize WB^j=W at *;rw[←hPD] at e1;generalize 2^(64-s)=D at *;generalize 2^s=S at *;refine⟨W*m+X,?_,?_⟩
 ·rw[e1,←hdm,Qaz,Qau]
  have g1:x1*S*(W*D)=W*(D*S)*x1:=by ac_rfl
  have g2:q*(W*D)=W*(D*q):=by ac_rfl
  omega
 ·have:W*(m+1)≤W*D:=Qan _ hml
  rw[Qau,Qbr] at this;omega
def Wt (a b:Nat) (w:World) (e:Ending) (w':World):Prop:=
 ∃h0 h1 P ra rb:Nat,e = .returned (.tuple #[.int .u64 h0,.int .u64 h1])∧a=h0*P+ra∧b=h1*P+rb∧ra<P∧rb<P∧h1≤h0∧h0<WB∧w=w'
structure RI (xs ys:List Nat) (a b j s P ra rb:Nat):Prop where
 len:xs.length=j+2
 ylen:ys.length≤j+2
 sh:s+Lib.bitLen (xs[j+1]?.getD 0)=64
 s64:s<64
 top:xs[j+1]?.getD 0<2^(64-s)
 ytop:ys[j+1]?.getD 0<2^(64-s)
 ea:a=xw xs j s*P+ra
 eb:b=xw ys j s*P+rb
 ra_lt:ra<P
 rb_lt:rb<P
 le:xw ys j s≤xw xs j s
 lt:xw xs j s<WB
theorem FN {p q P a b ra rb:Nat} (ea:a=p*P+ra) (eb:b=q*P+rb) (hra:ra<P) (h:b≤a):q≤p:=by
 rcases Qae p q with k | k
 ·have:(p+1)*P≤q*P:=Qas _ k
  rw[Qaz,Qbd] at this;omega
 ·exact k
theorem top_le {W X Y x y a b:Nat} (ea:a=X+W*x) (eb:b=Y+W*y) (hX:X<W) (h:b≤a):y≤x:=by
 rcases Qae x y with k | k
 ·have:W*(x+1)≤W*y:=Qan _ k
  rw[Qau,Qbr] at this;omega
 ·exact k
theorem An {xs ys:List Nat} {a b:Nat} (h1:jd xs=a) (h2:jJ xs) (h3:kp xs) (g1:jd ys=b) (g2:jJ ys) (g3:kp ys) (hba:b≤a) (haw:WB≤a):∃j s P ra rb,RI xs ys a b j s P ra rb:=by
 have hxl2:2≤xs.length:=by
  rcases Qae xs.length 2 with hl | hl
  ·have h8:=xj h2
   have h9:WB^xs.length≤WB^1:=Qai (by decide) (by omega);rw[Qbc] at h9;rw[h1] at h8;omega
  ·exact hl
 have hlen:ys.length≤xs.length:=by
  rcases Qae xs.length ys.length with hl | hl
  ·have:=Qb h2 g3 hl
   omega
  ·exact hl
 obtain⟨j,hj⟩:∃j,xs.length=j+2:=⟨xs.length-2,by omega⟩
 have hlow:jd (xs.take (j+1))<WB^(j+1):=by
  have k1:=xj (yR h2 (j+1))
  rwa [Qak,QaJ (by omega)] at k1
 have hX:=qt xs (j+1);rw[Qad (by omega),h1] at hX;have hY:=qt ys (j+1);rw[Qad (by omega),g1] at hY;have hyx:=top_le hX hY hlow hba
 have hlastp:0<xs[j+1]?.getD 0:=by
  have hl:=Km h3 (by intro e;rw[e] at hj;simp at hj);rw[hj,show j+2-1=j+1 by omega,h1] at hl;rcases QaA (xs[j+1]?.getD 0) with h0 | h0
  ·rw[h0,QbF,Qbf] at hX
   rw[hX] at hl;exact absurd hlow (Nat.not_lt.2 hl)
  ·exact h0
 have hlastw:=ka h2 (j+1);obtain⟨l1,l2,l3,l4⟩:=XW hlastp hlastw
 obtain⟨s,hs64⟩:∃s:Nat,s+Lib.bitLen (xs[j+1]?.getD 0)=64:=⟨64-Lib.bitLen (xs[j+1]?.getD 0),by omega⟩
 have hss:s<64:=by omega
 rw[show Lib.bitLen (xs[j+1]?.getD 0)=64-s by omega] at l4;obtain⟨ra,ea,hra⟩:=ES (j:=j) (by omega) h2 hss;obtain⟨rb,eb,hrb⟩:=ES (xs:=ys) (j:=j) (by omega) g2 hss;obtain⟨_,_,_,_,_,_,f5,f6,f7⟩:=ER (x:=xs[j+1]?.getD 0) (y:=xs[j]?.getD 0) l4 (ka h2 j) hss;rw[h1] at ea;rw[g1] at eb;refine⟨j,s,WB^j*2^(64-s),ra,rb,hj,by omega,hs64,hss,l4,Qax hyx l4,ea,eb,hra,hrb,FN ea eb hra hba,?_⟩;unfold xw;rw[←f5,←f6];exact f7
theorem Am (v u:Value) (a b:Nat) (w:World) (hv:Nt w v a) (hu:Nt w u b) (hba:b≤a) (haw:WB≤a) (ha:kr a):
  Calls Tryz.prog 163 #[v,u] w (Wt a b w):=by
 obtain⟨xs,A,c,rfl,h1,h2,h3,hc1,hc2,hs⟩:=hv.open_;obtain⟨ys,B,d,rfl,g1,g2,g3,gc1,gc2,gs⟩:=hu.open_;have hxl:=yT.len h3 h1 ha.one;obtain⟨j,s,P,ra,rb,N⟩:=An h1 h2 h3 g1 g2 g3 hba haw;have hj:=N.len;have hyl:=N.ylen;have hss:=N.s64
 have hse:(64:Int)-(Lib.bitLen (xs[j+1]?.getD 0):Int)=(s:Int):=by have:=N.sh;omega
 have hlastw:=ka h2 (j+1);have LZ:=hid (Tryz.bits_LeadingZeros64 ((xs[j+1]?.getD 0:Nat):Int) w (by omega) (by unfold WB at hlastw;omega));rw[Qcl,hse] at LZ;have WX:=hid (E0 A c xs j s w hs h2 N.top hss (by omega) (by omega));have WY:=hid (E0 B d ys j s w gs g2 N.ytop hss (by omega) (by omega));have HF:Hid (Wt a b w (.returned (.tuple #[.int .u64 (xw xs j s:Nat),.int .u64 (xw ys j s:Nat)])) w):=hid ⟨_,_,P,ra,rb,rfl,N.ea,N.eb,N.ra_lt,N.rb_lt,N.le,N.lt,rfl⟩;obtain⟨b1,KP,rfl,hbb1,hcell1⟩:=hs.at_ (k:=j+1) (by rw[jB];omega);have hcl:=(hcell1 (j+1) (by rw[jB];omega)).trans (jP xs (j+1) (by omega))
 have hjb:j≤8000000000001:=by omega
 rw[hj,show (j:Int)+1=(j:Int)+2-1 by omega] at WX;rw[show (j:Int)+1=(j:Int)+2-1 by omega] at WY;rw[hj];clear hv hu hba haw ha hs gs h1 h2 h3 hc1 hc2 g1 g2 g3 gc1 gc2 hxl hj hyl hlastw hse hcell1 N;generalize xs[j+1]?.getD 0=z at *;generalize xw xs j s=h0 at *;generalize xw ys j s=h1 at *;go_enter Tryz.func163,Tryz.ntmps163
 go_wp2_with fail
 refine LZ.out.mono ?_;rintro e w1 ⟨rfl,rfl⟩
 go_wp2_with fail
 refine WX.out.mono ?_;rintro e w2 ⟨rfl,rfl⟩
 go_wp2_with fail
 refine WY.out.mono ?_;rintro e w3 ⟨rfl,rfl⟩
 go_wp2
 go_ret2;exact HF.out
def XI (X Y:Nat) (w:World) (e:Ending) (w':World):Prop:=∃g l,e = .returned (.tuple #[g,l])∧Nt w' g X∧Nt w' l Y∧Below w.heap.size w w'
theorem SZ (v u:Value) (a b up vp uk vk:Nat) (w:World) (hv:Nt w v a) (hu:Nt w u b) (ha:kr a) (hb:kr b) (h1:up<WB) (h2:vp<WB) (h3:uk<WB) (h4:vk<WB) (hg:vp*b≤up*a) (hl:uk*a≤vk*b):
  Calls Tryz.prog 129 #[.agg #[.int .u64 up,.int .u64 vp,.int .u64 uk,.int .u64 vk,.bool true],v,u] w (XI (up*a-vp*b) (vk*b-uk*a) w):=by
 have D1:=hid (fun (z:World) (hB:Below w.heap.size w z)=>XE v u a b up vp z (hv.below hB) (hu.below hB) ha hb h1 h2 hg);have D2:=hid (fun (z:World) (hB:Below w.heap.size w z)=>XE u v b a vk uk z (hu.below hB) (hv.below hB) hb ha h4 h3 hl);obtain⟨A,n,c,rfl,_⟩:=hv.size_;obtain⟨B,m,d,rfl,_⟩:=hu.size_;have HO:Hid (ja (w.alloc (.cells #[.int .u64 up,.int .u64 vp,.int .u64 uk,.int .u64 vk,.bool true] 189)) w.heap.size 189 [.int .u64 up,.int .u64 vp,.int .u64 uk,.int .u64 vk,.bool true]):=hid (ja.make w _ _);clear hv hu ha hb h1 h2 h3 h4 hg hl;go_enter Tryz.func129,Tryz.ntmps129
 go_upto_region 2 with fail
 obtain⟨w1,hw1⟩:∃w1,w1=w.alloc (.cells #[.int .u64 up,.int .u64 vp,.int .u64 uk,.int .u64 vk,.bool true] 189):=⟨_,rfl⟩
 have HB1:Hid (Below w.heap.size w w1):=hid (by rw[hw1];exact(Below.refl _ _).alloc (Nat.le_refl _) _);rw[←hw1] at HO ⊢;clear hw1;have k0:=HO.out.cell 0;have k1:=HO.out.cell 1;have k2:=HO.out.cell 2;have k3:=HO.out.cell 3;have sz:=HO.out.lt;simp only[Qbv,QbV] at k0 k1 k2 k3
 have KS:Hid (∀z,Below w1.heap.size w1 z→z.cell? ⟨w.heap.size,0,none⟩=some (.int .u64 up)∧z.cell? ⟨w.heap.size,1,none⟩=some (.int .u64 vp)∧z.cell? ⟨w.heap.size,2,none⟩=some (.int .u64 uk)∧z.cell? ⟨w.heap.size,3,none⟩=some (.int .u64 vk)∧Below w1.heap.size w1 z):=hid (fun z hb=>
  ⟨(hb.cell (p:=⟨w.heap.size,0,none⟩) sz).trans k0,(hb.cell (p:=⟨w.heap.size,1,none⟩) sz).trans k1,(hb.cell (p:=⟨w.heap.size,2,none⟩) sz).trans k2,(hb.cell (p:=⟨w.heap.size,3,none⟩) sz).trans k3,hb⟩)
 have KT:=hid (fun (x x':World) (hb:Below x.heap.size x x') (h5:Below w1.heap.size w1 x)=>KS.out x' (h5.trans (hb.mono h5.size)));have E1:=hid (fun (z:World) (hB:Below w1.heap.size w1 z)=>D1.out z (HB1.out.trans (hB.mono HB1.out.size)));have E2:=hid (fun (z:World) (hB:Below w1.heap.size w1 z)=>D2.out z (HB1.out.trans (hB.mono HB1.out.size)));clear D1 D2 HO k0 k1 k2 k3
 go_region_held3 (fun z=>z.cell? ⟨w.heap.size,0,none⟩=some (.int .u64 up)∧z.cell? ⟨w.heap.size,1,none⟩=some (.int .u64 vp)∧z.cell? ⟨w.heap.size,2,none⟩=some (.int .u64 uk)∧z.cell? ⟨w.heap.size,3,none⟩=some (.int .u64 vk)∧Below w1.heap.size w1 z)
  (first | exact KS.out _ (Below.refl _ _).drew | exact KT.out _ _ (by assumption) (by assumption))
  (first
   | (go_at_call 165;go_split_ands;with_reducible refine(E1.out _ (by assumption)).mono ?_;rintro e4 w4 ⟨g,rfl,hg,hB4⟩)
   | (go_at_call 165;go_split_ands;with_reducible refine(E2.out _ (by assumption)).mono ?_;rintro e5 w5 ⟨l,rfl,hl,hB5⟩))
 rename_i hH;have HF:Hid (XI (up*a-vp*b) (vk*b-uk*a) w (.returned (.tuple #[g,l])) w5):=hid ⟨g,l,rfl,hg.below hB5,hl,HB1.out.trans (hH.2.2.2.2.mono HB1.out.size)⟩;clear hH hg hB4 hl hB5 KS KT E1 E2
 go_wp2
 go_ret2;exact HF.out
theorem SY (v u:Value) (a b up vp uk vk:Nat) (w:World) (hv:Nt w v a) (hu:Nt w u b) (ha:kr a) (hb:kr b) (h1:up<WB) (h2:vp<WB) (h3:uk<WB) (h4:vk<WB) (hg:up*a≤vp*b) (hl:vk*b≤uk*a):
  Calls Tryz.prog 129 #[.agg #[.int .u64 up,.int .u64 vp,.int .u64 uk,.int .u64 vk,.bool false],v,u] w (XI (vp*b-up*a) (uk*a-vk*b) w):=by
 have D1:=hid (fun (z:World) (hB:Below w.heap.size w z)=>XE u v b a vp up z (hu.below hB) (hv.below hB) hb ha h2 h1 hg);have D2:=hid (fun (z:World) (hB:Below w.heap.size w z)=>XE v u a b uk vk z (hv.below hB) (hu.below hB) ha hb h3 h4 hl);obtain⟨A,n,c,rfl,_⟩:=hv.size_;obtain⟨B,m,d,rfl,_⟩:=hu.size_;have HO:Hid (ja (w.alloc (.cells #[.int .u64 up,.int .u64 vp,.int .u64 uk,.int .u64 vk,.bool false] 189)) w.heap.size 189 [.int .u64 up,.int .u64 vp,.int .u64 uk,.int .u64 vk,.bool false]):=hid (ja.make w _ _);clear hv hu ha hb h1 h2 h3 h4 hg hl;go_enter Tryz.func129,Tryz.ntmps129
 go_upto_region 3 with fail
 obtain⟨w1,hw1⟩:∃w1,w1=w.alloc (.cells #[.int .u64 up,.int .u64 vp,.int .u64 uk,.int .u64 vk,.bool false] 189):=⟨_,rfl⟩
 have HB1:Hid (Below w.heap.size w w1):=hid (by rw[hw1];exact(Below.refl _ _).alloc (Nat.le_refl _) _);rw[←hw1] at HO ⊢;clear hw1;have k0:=HO.out.cell 0;have k1:=HO.out.cell 1;have k2:=HO.out.cell 2;have k3:=HO.out.cell 3;have sz:=HO.out.lt;simp only[Qbv,QbV] at k0 k1 k2 k3
 have KS:Hid (∀z,Below w1.heap.size w1 z→z.cell? ⟨w.heap.size,0,none⟩=some (.int .u64 up)∧z.cell? ⟨w.heap.size,1,none⟩=some (.int .u64 vp)∧z.cell? ⟨w.heap.size,2,none⟩=some (.int .u64 uk)∧z.cell? ⟨w.heap.size,3,none⟩=some (.int .u64 vk)∧Below w1.heap.size w1 z):=hid (fun z hb=>
  ⟨(hb.cell (p:=⟨w.heap.size,0,none⟩) sz).trans k0,(hb.cell (p:=⟨w.heap.size,1,none⟩) sz).trans k1,(hb.cell (p:=⟨w.heap.size,2,none⟩) sz).trans k2,(hb.cell (p:=⟨w.heap.size,3,none⟩) sz).trans k3,hb⟩)
 have KT:=hid (fun (x x':World) (hb:Below x.heap.size x x') (h5:Below w1.heap.size w1 x)=>KS.out x' (h5.trans (hb.mono h5.size)));have E1:=hid (fun (z:World) (hB:Below w1.heap.size w1 z)=>D1.out z (HB1.out.trans (hB.mono HB1.out.size)));have E2:=hid (fun (z:World) (hB:Below w1.heap.size w1 z)=>D2.out z (HB1.out.trans (hB.mono HB1.out.size)));clear D1 D2 HO k0 k1 k2 k3
 go_region_held3 (fun z=>z.cell? ⟨w.heap.size,0,none⟩=some (.int .u64 up)∧z.cell? ⟨w.heap.size,1,none⟩=some (.int .u64 vp)∧z.cell? ⟨w.heap.size,2,none⟩=some (.int .u64 uk)∧z.cell? ⟨w.heap.size,3,none⟩=some (.int .u64 vk)∧Below w1.heap.size w1 z)
  (first | exact KS.out _ (Below.refl _ _).drew | exact KT.out _ _ (by assumption) (by assumption))
  (first
   | (go_at_call 165;go_split_ands;with_reducible refine(E1.out _ (by assumption)).mono ?_;rintro e4 w4 ⟨g,rfl,hg,hB4⟩)
   | (go_at_call 165;go_split_ands;with_reducible refine(E2.out _ (by assumption)).mono ?_;rintro e5 w5 ⟨l,rfl,hl,hB5⟩))
 rename_i hH;have HF:Hid (XI (vp*b-up*a) (uk*a-vk*b) w (.returned (.tuple #[g,l])) w5):=hid ⟨g,l,rfl,hg.below hB5,hl,HB1.out.trans (hH.2.2.2.2.mono HB1.out.size)⟩;clear hH hg hB4 hl hB5 KS KT E1 E2
 go_wp2
 go_ret2;exact HF.out
