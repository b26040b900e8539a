/- Contracts of the reference: long division, the whole walk. -/
import Derived.Test.YteagkgagdelklaaGreatDoorZT28
set_option maxRecDepth 100000
set_option maxHeartbeats 16000000
namespace Go.Proofs.YteagkgagdelklaaGreatDoor
open Go.RowKit Go.Lib
theorem NK (v u:Value) (x y:Nat) (w:World) (hv:Dg w v x) (hu:Dg w u y) (hle:y≤x) (hy:B9≤y) (hx:jQ x):
  Calls Tryz.prog 156 #[v,u] w (Qq x y w):=by
 obtain⟨i0,hi,hz0,hz1,hz2⟩:=info_parts zd;have CD:=hid (Qm v u x y w hv hu);have ho:=Kb hle;have HV:=hid hv;have HU:=hid hu;obtain⟨xs,A,c,rfl,e1,oa,na,l1,l2,s1⟩:=hv.open_;obtain⟨bs,B,d,rfl,e2,ob,nb,m1,m2,s2⟩:=hu.open_;have hp6:=hx.len na e1
 have hbl:2≤bs.length:=by
  rcases Qae bs.length 2 with h | h
  ·have h1:=qN ob
   have h2:B9^bs.length≤B9^1:=Qai (by decide) (by omega);rw[Qbc] at h2;omega
  ·exact h
 have hab:bs.length≤xs.length:=by
  rcases Qae xs.length bs.length with h | h
  ·have:=Xp oa nb h;omega
  ·exact h
 obtain⟨m,hm⟩:∃m,bs.length=m+2:=⟨bs.length-2,by omega⟩
 have hb1:((bs.length:Int)==1)=false:=by simpa using (by omega:¬(bs.length:Int)=1)
 obtain⟨b1,off1,rfl,hbb1,hcell1⟩:=s2.at_ (k:=0) (by rw[kh];omega);have hck0:=(hcell1 (m+1) (by rw[kh];omega)).trans (qq bs (m+1) (by omega));have tp:=EE nb ob (m:=m+1) hm;have t9:=kR ob (m+1)
 obtain⟨f,hf⟩:∃f,f=B9/(bs[m+1]?.getD 0+1):=⟨_,rfl⟩
 obtain⟨f1,f2,f3,f4⟩:=Gz tp t9 hf;have HNA:=hid (fun vs ov nv hv=>Cw (vs:=vs) ob nb hm hf ov nv hv);have HDL:=hid (fun ws ow nw hw=>NV (ws:=ws) oa na (by intro h;subst h;have:bs.length≤0:=hab;omega) f1 f2 ow nw hw)
 have hfI:(f:Int)<1000000000:=by have:=f2;unfold B9 at this;omega
 have hff:(1000000000:Int)/(((bs[m+1]?.getD 0:Nat):Int)+1)=(f:Int):=by rw[hf];rfl
 have hyb:Hid (B9^(m+1)≤y):=hid (by
  have:=Ky nb (by rintro rfl;simp at hbl)
  rw[hm,e2] at this;exact this)
 have hxb:Hid (x<B9^xs.length):=hid (by have:=qN oa;rw[e1] at this;exact this);have HFB:Hid (jQ f):=hid (hx.le (by omega));have HYB:Hid (jQ y):=hid (hx.le hle);have HX:=hid hx;have HF1:=hid f1;have HF2:=hid f2;have HY0:Hid (0<y):=hid (by unfold B9 at hy;omega)
 have htI:((bs[m+1]?.getD 0:Nat):Int)<1000000000:=by unfold B9 at t9;omega
 obtain⟨M1,hM1⟩:∃M1,M1=m+1:=⟨_,rfl⟩
 have i1:(bs.length:Int)-1=(M1:Int):=by omega
 have i2:(M1:Int)<(bs.length:Int):=by omega
 have i3:(bs.length:Int)≤1000000:=by omega
 have i4:(xs.length:Int)≤1000000:=by omega
 have hck:w.cell? ⟨b1,off1+M1,none⟩=some (.int .i64 ((bs[m+1]?.getD 0:Nat):Int)):=by rw[hM1];exact hck0
 clear hck0;have HM1:=hid hM1;have HLIM:Hid (bs.length≤xN):=hid (Qj nb (by rw[e2];exact hx.le hle));have HE1:=hid e1;have HE2:=hid e2;have HM:=hid hm;have hasl:=hid hab;clear hv hu hle hy hx e1 e2 oa ob na nb s1 s2 tp t9 hf f1 f2 f3 f4 hcell1 hbl hab;generalize bs[m+1]?.getD 0=tb at *;generalize kq x y=o at *;generalize hlb:bs.length=n at *;generalize hla:xs.length=la at *;clear hm hM1;have hoD:(o<0)=False:=eq_false (by omega);clear ho;go_enter Tryz.func156,Tryz.ntmps156
 go_wp2_with fail
 refine CD.out.mono ?_;rintro e w1 ⟨rfl,hB1⟩;have hck1:=(hB1.cell (p:=⟨b1,off1+M1,none⟩) hbb1).trans hck
 go_wp2_with fail
 have HB1:=hid hB1;have hBa:=hB1.alloc hB1.size (.cells #[.int .i64 (f:Int)] 3);have HDf:=hid (Dg.new w1 f HF1.out HF2.out)
 have hfc:(w1.alloc (.cells #[.int .i64 (f:Int)] 3)).cell? ⟨w1.heap.size,0,none⟩=some (.int .i64 (f:Int)):=by rw[World.cell?_alloc_at _ _ _ _ rfl];rfl
 refine(KM _ _ y f _ (HU.out.below hBa) HDf.out HYB.out HFB.out).mono ?_;rintro e W2 ⟨vv,rfl,hvv,hB2⟩;obtain⟨vs,VA,vc,rfl,e3,o3,n3,r1,r2,s3⟩:=hvv.open_;obtain⟨k1,k2⟩:=HNA.out vs o3 n3 (by rw[e3,HE2.out]);have HBW:=hid (hBa.trans (hB2.mono hBa.size))
 have hal:(w1.alloc (.cells #[.int .i64 (f:Int)] 3)).heap.size=w1.heap.size+1:=by simp
 have hs12:w1.heap.size+1≤W2.heap.size:=by rw[←hal];exact hB2.size
 have hfc2:=(hB2.cell (p:=⟨w1.heap.size,0,none⟩) (by rw[hal];exact Nat.lt_succ_self _)).trans hfc;have HDf2:=hid (HDf.out.below hB2);have HS3:=hid s3;have HO3:=hid o3;have HE3:=hid e3;have hvl:Hid (vs.length=m+2):=hid k1;generalize hvn:vs.length=nv at *
 obtain rfl:nv=n:=by have:=HM.out;omega
 have HVN:=hid hvn;have HK2:=hid k2;clear hvv hB2 e3 o3 n3 s3 k1 k2 hal hfc hBa hB1 HDf HNA hck1 hck htI i1 hb1 hff hoD hvn
 go_wp2_with fail
 have hB23:Below W2.heap.size W2 (W2.alloc (.cells #[] 3)):=(Below.refl _ _).alloc (Nat.le_refl _) _;have HW3:=hid (World.ownsRow_lit (e:=3) (size:=1) (base:=W2.heap.size) W2 #[] 0 (Nat.le_refl _) (by unfold maxLen;omega) rfl)
 have hs3:(W2.alloc (.cells #[] 3)).heap.size=W2.heap.size+1:=by simp
 refine(KM _ _ x f _ (HV.out.below ((HBW.out.trans (hB23.mono HBW.out.size)))) (HDf2.out.below hB23) HX.out HFB.out).mono ?_;rintro e W4 ⟨av,rfl,hav,hB4⟩;obtain⟨ws,WA,wc,rfl,e4,o4,n4,q1,q2,s4⟩:=hav.open_;obtain⟨g1,g2,g3⟩:=HDL.out ws o4 n4 (by rw[e4,HE1.out]);obtain⟨b4,off4,rfl,hbb4,hcell4⟩:=s4.at_ (k:=0) (by rw[kh];exact List.length_pos_iff.2 g1);have HNW:=hid (Cn hcell4);have HOW:=hid (kD HW3.out hB4);have HB24:=hid (hB23.trans (hB4.mono hB23.size))
 have hwl:ws.length≤1000001:=by omega
 have HO4:=hid o4;have HE4:=hid e4;have HG2:=hid g2;have HG3:=hid g3;have HG1:=hid g1;have h24:=HB24.out.size;clear hav hB4 o4 n4 e4 s4 g1 g2 g3 hcell4 hB23 HW3 hs3 HDL
 go_wp2_with (at_builtin;(refine wpList_append_own _ rfl _ _ 41 rfl W2.heap.size 3 i0 (.int .i64 0) 1 8 Tryz.underlying41 hi hz0 hz1 hz2 rfl (by decide) _ _ _ rfl HOW.out ⟨b4,off4,none⟩ ws.length wc (jm ws) rfl (by rw[kh,Qbr]) HNW.out (Co ws) (by unfold maxLen;omega) (by omega) h24 ?_;intro u5 W5 hown' hgrow _))
 simp only[Qbi,Qbe] at hown';have hg5:W4.grownBy W5 (some W2.heap.size):=hgrow;have HO5:=hid hown';have HB25:Hid (Below W2.heap.size W2 W5):=hid (Below.grown HB24.out hg5 h24 (fun j hj=>by injection hj with hj;omega));clear hown' hgrow hg5 HOW HNW HB24 h24 hbb4;obtain⟨A5,k5,hu5,_,_⟩:=jX HO5.out;subst hu5
 obtain⟨g0,hg0⟩:∃g0,ws.length+g0=la+1:=⟨la+1-ws.length,by have:=HG2.out;omega⟩
 have HGZ:=hid hg0;clear hg0
 go_wp2_with fail
 go_loopg [11] g0 (fun g uu wr=>∃L:List Nat,Hid (∃z,L=ws++List.replicate z 0)∧Hid (L.length+g=la+1)∧Hid (wr.ownsRow W2.heap.size 3 1 uu L.length (jm L))∧Hid (Below W2.heap.size W2 wr))
 case atStart=>exact⟨ws,hid ⟨0,by simp⟩,HGZ,HO5,HB25⟩
 case round=>
  clear HO5 HB25;obtain⟨L,hz,hk,hO,hB⟩:=hrel;obtain⟨A7,k7,hvf,_,_⟩:=jX hO.out;subst hvf;have hbs:=hB.out.size
  cases gk with
  | succ g=>
   have hlI:(L.length:Int)<(la:Int)+1:=by have:=hk.out;omega
   go_wp2_with (at_builtin;(refine wpList_append_own _ rfl _ _ 41 rfl W2.heap.size 3 i0 (.int .i64 0) 1 8 Tryz.underlying41 hi hz0 hz1 hz2 rfl (by decide) _ _ _ rfl (hO.out.alloc _) ⟨wr.heap.size,0,none⟩ 1 1 [.int .i64 0] rfl rfl (cell_one_new _ _ _) (fun x hx=>by simp at hx;subst hx;rfl) (by unfold maxLen;omega) (by omega) (by simp;omega) ?_;intro v' w1 hown' hgrow _))
   have HO':Hid (w1.ownsRow W2.heap.size 3 1 v' (L++[0]).length (jm (L++[0]))):=hid (by
    rw[x7,Qaf,QaZ];exact hown')
   have HB':=hid (Below.grown (hB.out.alloc hbs (.cells #[.int .i64 0] 3)) hgrow (by simp;omega) (fun j hj=>by have:=(hO.out.lt _ hj).1;omega))
   have HZ':Hid (∃z,L++[0]=ws++List.replicate z 0):=hid (by
    obtain⟨z,hz⟩:=hz.out
    exact⟨z+1,by rw[hz,List.replicate_succ',QaV]⟩)
   have HK':Hid ((L++[0]).length+g=la+1):=hid (by have:=hk.out;rw[Qaf,QaZ];omega);clear hown' hgrow
   go_wp2
   go_roundg g
   case rel=>exact⟨_,HZ',HK',HO',HB'⟩
   case measure=>omega
  | zero=>
   have hlI:((L.length:Int)<(la:Int)+1)=False:=eq_false (by have:=hk.out;omega)
   have hKl:L.length=la+1:=by have:=hk.out;omega
   obtain⟨M,hM⟩:∃M,M+nv=la+1:=⟨la+1-nv,by have:=hasl.out;omega⟩
   obtain⟨gu,cap,hue,hgu,hgl,hUb⟩:=Ub.of_owns hO.out (by omega)
   obtain⟨rfl,rfl⟩:A7=some ⟨gu,0,none⟩∧k7=cap:=by simpa using hue
   have hbu:Hid (jI L∧jb L=x*f):=hid (by
    obtain⟨z,hz⟩:=hz.out
    rw[hz];exact⟨Tr HO4.out z,by rw[Tx];exact HE4.out⟩)
   have HST:Hid (Dv L vs L (List.replicate M 0) M):=hid (Dv.start hbu.out.1 (by have:=HVN.out;omega)
    (DP (n:=m+1) (K:=la) hbu.out.2 HE3.out (by omega) (by have:=hvl.out;omega) hxb.out hyb.out HF1.out))
   have HKK:=hid hKl;generalize hLK:L.length=K at *;have HLK:=hid hLK
   have i5:(K:Int)-(nv:Int)=(M:Int):=by omega
   have i6:(K:Int)≤1000001:=by omega
   have i7:(M:Int)≤1000001:=by omega
   have i8:(M:Int)+(nv:Int)=(K:Int):=by omega
   have hmk:=J7 wr M (by omega);have HQ0:Hid (ja (wr.alloc (.cells (je (List.replicate M 0)).toArray 3)) wr.heap.size 3 (jm (List.replicate M 0))):=hid (by rw[ZT];exact ja.make _ _ _);have HU0:=hid (hUb.alloc (.cells (je (List.replicate M 0)).toArray 3));have HB0:=hid (hB.out.alloc hbs (.cells (je (List.replicate M 0)).toArray 3));have HMM:=hid hM;obtain⟨bv,offv,rfl,hbv,hcellv⟩:=HS3.out.at_ (k:=0) (by rw[kh];have:=hvl.out;have:=HVN.out;omega)
   have HVC:Hid (∀(W:World) (k:Nat),Below W2.heap.size W2 W→k<nv→W.cell? ⟨bv,offv+k,none⟩=some (.int .i64 ((vs[k]?.getD 0:Nat):Int))):=hid (fun W k hB hk=>by
    have h1:k<vs.length:=by have:=HVN.out;omega
    exact(hB.cell (p:=⟨bv,offv+k,none⟩) hbv).trans ((hcellv k (by rw[kh];exact h1)).trans (qq vs k h1)))
   clear hk hz hO hB hue hUb hM hLK hKl i8 hi hz0 hz1 hz2 hcellv
   obtain⟨wo,rfl⟩:∃wo:World,wo=wr:=⟨_,rfl⟩
   have hfw:w1.heap.size<W2.heap.size:=by omega
   go_wp2_with fail
   clear hmk hlI
   go_loopg [13,14,15,16,17,18,19,20,21] M (fun g jj _ _ _ _ _ _ _ _ wr=>∃(Lu Q:List Nat),jj = .int .i64 ((g:Int)-1)∧(g:Int)≤(M:Int)∧Hid (Dv L vs Lu Q g)∧Hid (Ub wr gu K k7 (jm Lu))∧Hid (ja wr wo.heap.size 3 (jm Q))∧Hid (Below W2.heap.size W2 wr))
   case atStart=>exact⟨L,_,rfl,Int.le_refl _,HST,HU0,HQ0,HB0⟩
   case round=>
    clear HST HU0 HQ0 HB0;obtain⟨Lu,Q,rfl,hgM,hD,hU,hQ,hB⟩:=hrel
    cases gk with
    | zero=>
     have hin:((0:Int)≤((0:Nat):Int)-1)=False:=eq_false (by omega);have hlast:=hD.out.last
     have hLul:Lu.length=K:=by have:=hD.out.1;have:=HLK.out;omega
     have hQl:Q.length=M:=by have:=hD.out.2.2.1;have:=HVN.out;have:=HLK.out;have:=HMM.out;have:=HKK.out;omega
     have hlt2:jb Lu<jb vs:=by have:=hD.out.2.2.2.2.1;rwa [Qa0] at this
     have hvs9:jb vs<B9^nv:=by have:=qN HO3.out;rwa [HVN.out] at this
     have hrem:jb (Lu.take nv)=x%y*f:=by
      rw[Pm hlt2 hvs9 (by have:=HMM.out;have:=HKK.out;omega),hlast.2,hbu.out.2,HE3.out,Qci]
     have hquo:jb Q=x/y:=by rw[hlast.1,hbu.out.2,HE3.out];exact(NR HF1.out).1
     have TR:Hid (∀W:World,Ub W gu K k7 (jm Lu)→Calls Tryz.prog 187 #[.slice (some ⟨gu,0,none⟩) nv k7] W (EF (x%y*f) W)):=hid (fun W h=>by
      rw[←hrem];exact Pw (n:=nv) h hD.out.2.1 (by have:=HMM.out;have:=HKK.out;omega) (by omega))
     have hbig:jQ (x%y*f):=by
      rw[←hrem];refine Qax (Tw Lu nv) (Nat.lt_trans hlt2 (Qac hvs9 (Qai (by decide) ?_)));have:=HLIM.out;omega
     have DD:=hid (fun (W:World) (u:Value) (h:Dg W u (x%y*f))=>VS u (x%y*f) f W h HF1.out HF2.out hbig)
     have TQ:Hid (∀W:World,ja W wo.heap.size 3 (jm Q)→Calls Tryz.prog 187 #[.slice (some ⟨wo.heap.size,0,none⟩) M M] W (EF (x/y) W)):=hid (fun W h=>by
      rw[←hquo];exact Yy M hQl.symm h hD.out.2.2.2.1 (by omega))
     have HREM:Hid (x%y*f/f=x%y):=hid (Nat.mul_div_cancel _ HF1.out);have hfc3:=(hB.out.cell (p:=⟨w1.heap.size,0,none⟩) hfw).trans hfc2;have hql:=hQ.out.lt;clear hlast hLul hQl hlt2 hvs9 hrem hquo hbig hD;have hgl2:gu<wr.heap.size:=hU.out.lt
     have hfl:w1.heap.size<wr.heap.size:=by have:=hB.out.size;omega
     have KS:Hid (∀z,Below wr.heap.size wr z→z.cell? ⟨w1.heap.size,0,none⟩=some (.int .i64 (f:Int))∧Below wr.heap.size wr z):=hid (fun z hb=>⟨(hb.cell (p:=⟨w1.heap.size,0,none⟩) hfl).trans hfc3,hb⟩);have KT:=hid (fun (x x':World) (hb:Below x.heap.size x x') (h5:Below wr.heap.size wr x)=>KS.out x' (h5.trans (hb.mono h5.size)))
     have i9:(nv:Int)≤(k7:Int):=by have:=HMM.out;have:=HKK.out;omega
     go_wp2_with fail
     go_region_held3 (fun z=>z.cell? ⟨w1.heap.size,0,none⟩=some (.int .i64 (f:Int))∧Below wr.heap.size wr z)
      (first | exact KS.out _ (Below.refl wr.heap.size wr).drew | exact KT.out _ _ (by assumption) (by assumption))
      (first
       | (go_at_call 187;go_split_ands;refine(TR.out _ (hU.out.below (by assumption) hgl2)).mono ?_;rintro e w5 ⟨tv,rfl,htv,rfl⟩;obtain⟨TA,tn,tc,rfl,_⟩:=htv.size_;have HTV:=hid htv;clear htv)
       | (go_at_call 186;go_split_ands;refine(DD.out _ _ HTV.out).mono ?_;rintro e w6 ⟨rv,rfl,hrv,hB6⟩;rw[HREM.out] at hrv;obtain⟨RA,rn,rc,rfl,_⟩:=hrv.size_;have HRV:=hid hrv;clear hrv))
     all_goals (
      have HB16:Hid (Below wr.heap.size wr w6):=hid (by go_split_ands;assumption);have TQ6:=hid (TQ.out w6 (hQ.out.below HB16.out hql));have HBF:Hid (Below w.heap.size w w6):=hid (HBW.out.trans ((hB.out.trans (HB16.out.mono hB.out.size)).mono HBW.out.size));clear HB16 TQ hQ hB hU
      go_wp2_with fail
      refine TQ6.out.mono ?_;rintro e w7 ⟨qv,rfl,hqv,rfl⟩;obtain⟨QA,qn,qc,rfl,_⟩:=hqv.size_;have HQV:=hid hqv;clear hqv
      go_wp2
      go_ret2
      exact⟨_,_,rfl,HQV.out,HRV.out,HBF.out⟩)
    | succ j=>
     have hjM:j<M:=by omega
     have hLul:Lu.length=K:=by have:=hD.out.1;have:=HLK.out;omega
     have hQl:Q.length=M:=by have:=hD.out.2.2.1;have:=HVN.out;have:=HLK.out;have:=HMM.out;have:=HKK.out;omega
     have hjn:j+nv<K:=by have:=HMM.out;have:=HKK.out;omega
     have hz0:jb (Lu.drop (j+nv+1))=0:=by have:=hD.out.above HO3.out;rwa [HVN.out] at this
     have GC:=hid (Ai (.slice (some ⟨gu,0,none⟩) K k7) (.slice (some ⟨bv,offv,none⟩) nv vc) Lu vs j m wr (hU.out.slW (by omega)) (HS3.out.below (hB.out)) hD.out.2.1 HO3.out (by have:=HVN.out;have:=hvl.out;omega) (by have:=hvl.out;omega)
      (by have:=hvl.out;rw[show j+m+3=j+nv+1 from by omega];exact hz0) (hD.out.lt (by omega)) HK2.out (by omega))
     have hguw:gu<wr.heap.size:=hU.out.lt;have hqw:wo.heap.size<wr.heap.size:=hQ.out.lt
     go_wp2_with fail
     refine GC.out.mono ?_;rintro e w5 ⟨t,rfl,hDg,hB5⟩;have HDg:=hid hDg;have HU5:=hid (hU.out.below hB5 hguw);have HQ5:=hid (hQ.out.below hB5 hqw);have HB5:=hid (hB.out.trans (hB5.mono hB.out.size));have ht9:t<1000000000:=hDg.1;have HSM:=hid (xH.start (vs:=vs) t j hD.out.2.1);have HZ0:=hid hz0;have HLU:=hid hLul;have HQL:=hid hQl;have HJN:=hid hjn;clear hDg hB5 GC hU hQ hB hz0 hLul hQl hjn hguw hqw
     go_wp2_with fail
     have ht9I:(t:Int)<1000000000:=by omega
     go_loopg [15,16,17,18] nv (fun h br ii _ _ wr=>∃(k c:Nat) (L':List Nat),br = .int .i64 (c:Int)∧ii = .int .i64 (k:Int)∧(c:Int)<1000000000∧Hid (k+h=nv)∧Hid (xH vs Lu L' t j k c)∧Hid (Ub wr gu K k7 (jm L'))∧Hid (ja wr wo.heap.size 3 (jm Q))∧Hid (Below W2.heap.size W2 wr))
     case atStart=>exact⟨0,0,Lu,rfl,rfl,by decide,hid (by omega),HSM,HU5,HQ5,HB5⟩
     case round=>
      clear HSM HU5 HQ5 HB5;obtain⟨k,c,L',rfl,rfl,hc9,hk,hS,hU,hQ,hB⟩:=hrel
      have hl':L'.length=K:=by have:=hS.out.1;have:=HLU.out;omega
      cases gk with
      | zero=>
       have hkk:k=nv:=by have:=hk.out;omega
       subst hkk
       have hS2:xH vs Lu L' t j vs.length c:=by rw[HVN.out];exact hS.out
       have hjv:j+vs.length<Lu.length:=by have:=HVN.out;have:=HLU.out;have:=HJN.out;omega
       have hz1:jb (Lu.drop (j+vs.length+1))=0:=by rw[HVN.out];exact HZ0.out
       have hmain:=hS2.main hjv hz1;have hck0:=(hU.out.cell (i:=j+k) HJN.out).trans (qq L' (j+k) (by have:=HJN.out;omega));have hfr:=hU.out.free (j+k)
       have hjI:(j:Int)+(k:Int)<(K:Int):=by have:=HJN.out;omega
       have e1:L'[j+k]?.getD 0=Lu[j+k]?.getD 0:=by have:=hmain.2.2;rwa [HVN.out] at this
       rw[e1] at hck0;have hzb:=kR hD.out.2.1 (j+k);rcases Qae (Lu[j+k]?.getD 0) c with hlt | hge
       ·obtain⟨hov,htpos⟩:=hS2.over HO3.out hjv hz1 HDg.out (by rw[HVN.out];exact hlt)
        rw[HVN.out] at hov
        obtain⟨t',rfl⟩:∃t',t=t'+1:=⟨t-1,by omega⟩
        have HAF:=hid (fun (L2:List Nat) (c2:Nat) (hA:yu vs L' L2 j vs.length c2)=>yu.fit hS2 hA HO3.out hjv hz1 HDg.out (by rw[HVN.out];exact hlt));have HAS:=hid (yu.start (vs:=vs) j hS.out.2.1);have HST2:=hid (fun (N:List Nat) h1 h2 h3 h4 h5=>hD.out.step (N:=N) (t:=t') (by have:=HQL.out;omega) h1 h2 h3 h4 h5 (by have:=ht9;unfold B9;omega));have HTK:Hid (L'.take j=Lu.take j):=hid hS.out.2.2.1;have HL':=hid hl'
        have hzc:(Lu[j+k]?.getD 0:Int)-(c:Int) = -1:=by omega
        generalize Lu[j+k]?.getD 0=z at *;have HU3:Hid (Ub (wr.setCell ⟨gu,j+k,none⟩ (.int .i64 (-1))) gu K k7 ((jm L').set (j+k) (.int .i64 (-1)))):=hid (hU.out.put _ _);have HQ3:Hid (ja (wr.setCell ⟨gu,j+k,none⟩ (.int .i64 (-1))) wo.heap.size 3 (jm Q)):=hid (hQ.out.other (by show wo.heap.size≠gu;omega) _);have HB3:Hid (Below W2.heap.size W2 (wr.setCell ⟨gu,j+k,none⟩ (.int .i64 (-1)))):=hid (hB.out.setCell (p:=⟨gu,j+k,none⟩) hgu _)
        have hzI:(z:Int)<1000000000:=by unfold B9 at hzb;omega
        clear hS2 hz1 hmain hlt hov htpos hS hU hQ hB hzb hk e1 hjv hl' HDg
        go_wp2_with fail
        go_loopg [19,20,21] k (fun h cc ii _ wr=>∃(k2 c2:Nat) (L2:List Nat),cc = .int .i64 (c2:Int)∧ii = .int .i64 (k2:Int)∧(c2:Int)≤1∧Hid (k2+h=k)∧Hid (yu vs L' L2 j k2 c2)∧Hid (Ub wr gu K k7 ((jm L2).set (j+k) (.int .i64 (-1))))∧Hid (ja wr wo.heap.size 3 (jm Q))∧Hid (Below W2.heap.size W2 wr))
        case atStart=>exact⟨0,0,L',rfl,rfl,by decide,hid (by omega),HAS,HU3,HQ3,HB3⟩
        case round=>
         clear HAS HU3 HQ3 HB3 hck0 hfr;obtain⟨k2,c2,L2,rfl,rfl,hc1,hk,hA,hU,hQ,hB⟩:=hrel
         have hl2:L2.length=K:=by have:=hA.out.1;have:=HL'.out;omega
         have hfr:=hU.out.free (j+k)
         cases gk with
         | zero=>
          have hkk:k2=k:=by have:=hk.out;omega
          subst hkk
          have hA2:yu vs L' L2 j vs.length c2:=by rw[HVN.out];exact hA.out
          obtain⟨rfl,f1,f2⟩:=HAF.out L2 c2 hA2;rw[HVN.out,Qb1] at f1;rw[HVN.out] at f2;have HN:=hid (HST2.out (L2.set (j+k2) 0) (by rw[Qbz];have:=HLU.out;omega) (Ju hA.out.2.1 _ _ (by decide)) (by rw[Kj _ _ _ _ (by omega)];exact hA.out.2.2.1.trans HTK.out) f1 f2);have hck:wr.cell? ⟨gu,j+k2,none⟩=some (.int .i64 (-1)):=(hU.out.cell HJN.out).trans (by rw[QaS (by rw[kh];have:=HJN.out;omega)]);have hqf:=hQ.out.free j;have hqc:wr.cell? ⟨wo.heap.size,j,none⟩=some (.int .i64 ((Q[j]?.getD 0:Nat):Int)):=(hQ.out.cell j).trans (qq Q j (by have:=HQL.out;omega))
          have HU4:Hid (Ub ((wr.setCell ⟨gu,j+k2,none⟩ (.int .i64 0)).setCell ⟨wo.heap.size,j,none⟩ (.int .i64 (t':Int))) gu K k7 (jm (L2.set (j+k2) 0))):=hid ((show Ub (wr.setCell ⟨gu,j+k2,none⟩ (.int .i64 0)) gu K k7 (jm (L2.set (j+k2) 0)) by
           have h:=hU.out.put (j+k2) (.int .i64 0);rw[List.set_set] at h
           rw[←Jc];exact h).other (by show gu≠wo.heap.size;omega) _)
          have HQ4:Hid (ja ((wr.setCell ⟨gu,j+k2,none⟩ (.int .i64 0)).setCell ⟨wo.heap.size,j,none⟩ (.int .i64 (t':Int))) wo.heap.size 3 (jm (Q.set j t'))):=hid (by rw[←Jc];exact(hQ.out.other (by show wo.heap.size≠gu;omega) _).put _ _);have HB4:Hid (Below W2.heap.size W2 ((wr.setCell ⟨gu,j+k2,none⟩ (.int .i64 0)).setCell ⟨wo.heap.size,j,none⟩ (.int .i64 (t':Int)))):=hid ((hB.out.setCell (p:=⟨gu,j+k2,none⟩) hgu _).setCell (p:=⟨wo.heap.size,j,none⟩) hbs _)
          have hqn:gu≠wo.heap.size:=by omega
          have hjM2:(j:Int)<(M:Int):=by omega
          generalize Q[j]?.getD 0=qo at *;clear hA2 f1 f2 hA hU hQ hB hk hl2 HAF HST2
          go_wp2
          go_roundg j
          case rel=>exact⟨_,_,by go_num,by omega,HN,HU4,HQ4,HB4⟩
          case measure=>omega
         | succ h=>
          have hkn:k2<k:=by have:=hk.out;omega
          have hkI:(k2:Int)<(k:Int):=by omega
          have hck1:=HVC.out wr k2 hB.out hkn
          have hck2:wr.cell? ⟨gu,k2+j,none⟩=some (.int .i64 ((L2[k2+j]?.getD 0:Nat):Int)):=(hU.out.cell (i:=k2+j) (by have:=HJN.out;omega)).trans (by
           rw[Qbq (by omega)];exact qq L2 (k2+j) (by have:=HJN.out;omega))
          have hfr2:=hU.out.free (k2+j)
          have hkj:(k2:Int)+(j:Int)<(K:Int):=by have:=HJN.out;omega
          have vb:vs[k2]?.getD 0<B9:=kR HO3.out k2;have zb:=kR hA.out.2.1 (k2+j)
          have HN:=fun d c' h1 h2 h3=>hA.out.step (d:=d) (c':=c') (by have:=HVN.out;omega) (by have:=HVN.out;have:=HJN.out;have:=HL'.out;omega) h1 h2 h3
          rw[Qcr j k2] at HN
          have HU2:Hid (∀q d:Nat,Ub ((wr.drewN q).setCell ⟨gu,k2+j,none⟩ (.int .i64 (d:Int))) gu K k7 ((jm (L2.set (k2+j) d)).set (j+k) (.int .i64 (-1)))):=hid (fun q d=>by
           rw[←Jc,List.set_comm _ _ (by omega)];exact(hU.out.drewN q).put _ _)
          have HQ2:Hid (∀q d:Nat,ja ((wr.drewN q).setCell ⟨gu,k2+j,none⟩ (.int .i64 (d:Int))) wo.heap.size 3 (jm Q)):=hid (fun q d=>(hQ.out.drewN q).other (by show wo.heap.size≠gu;omega) _);have HB2:Hid (∀q d:Nat,Below W2.heap.size W2 ((wr.drewN q).setCell ⟨gu,k2+j,none⟩ (.int .i64 (d:Int)))):=hid (fun q d=>(below_drewN hB.out q).setCell (p:=⟨gu,k2+j,none⟩) hgu _);generalize vs[k2]?.getD 0=v at *;generalize L2[k2+j]?.getD 0=z2 at *
          have hvI:(v:Int)<1000000000:=by unfold B9 at vb;omega
          have hzI2:(z2:Int)<1000000000:=by unfold B9 at zb;omega
          obtain⟨P,hP⟩:∃P,z2+v+c2=P:=⟨_,rfl⟩
          have hPb:P<2*B9:=by unfold B9;omega
          have hPI:(z2:Int)+(v:Int)+(c2:Int)=(P:Int):=by rw[←hP];rfl
          have m1':P%B9<B9:=QaI _ (by decide)
          have m2':P/B9≤1:=by
           have:P/B9<2:=by rw[Nat.div_lt_iff_lt_mul (by decide)];exact hPb
           exact Nat.le_of_lt_succ this
          have HS:=hid (HN _ _ m1' m2' (by rw[hP];exact Nat.mod_add_div P B9))
          have m3:((P/B9:Nat):Int)≤1:=by omega
          have Q1:(P:Int)/1000000000=((P/B9:Nat):Int):=by rw[Qbn];rfl
          have Q2:(P:Int)%1000000000=((P%B9:Nat):Int):=by rw[Qce];rfl
          have hPb2:(P:Int)<2000000000:=by clear Q1 Q2 m1' m2' m3;unfold B9 at hPb;omega
          clear hP hPb m1' m2' HN vb zb;generalize P/B9=pq at *;generalize P%B9=pr at *;have HQ1:=hid Q1;have HQ2':=hid Q2;have HPI:=hid hPI;have Hk:=hid hk.out;clear Q1 Q2 hk hA hl2 hU hQ hB HAF HST2 hfr
          go_wp2_with fail
          go_quiet (fail)
          have HSU:=hid (HU2.out nq pr);have HSQ:=hid (HQ2.out nq pr);have HSB:=hid (HB2.out nq pr);clear HU2 HQ2 HB2
          go_wp2
          rw[HQ1.out,HQ2'.out]
          go_roundg h
          case rel=>exact⟨k2+1,pq,_,rfl,by go_num,m3,hid (by have:=Hk.out;omega),HS,HSU,HSQ,HSB⟩
          case measure=>omega
       ·have HF:=hS2.fit HO3.out hjv hz1 HDg.out (by rw[HVN.out];exact hge)
        rw[HVN.out] at HF;have HN:=hid (hD.out.step (N:=L'.set (j+k) 0) (t:=t) (by have:=HQL.out;omega) (by rw[Qbz];have:=HLU.out;omega) (Ju hS.out.2.1 _ _ (by decide)) (by rw[Kj _ _ _ _ (by omega)];exact hS.out.2.2.1) HF.2.1 HF.2.2 HDg.out.1);have hzc:=HF.1;generalize Lu[j+k]?.getD 0=z at *;subst hzc;have hqf:=hQ.out.free j;have hqc:wr.cell? ⟨wo.heap.size,j,none⟩=some (.int .i64 ((Q[j]?.getD 0:Nat):Int)):=(hQ.out.cell j).trans (qq Q j (by have:=HQL.out;omega));have HU3:Hid (Ub ((wr.setCell ⟨gu,j+k,none⟩ (.int .i64 0)).setCell ⟨wo.heap.size,j,none⟩ (.int .i64 (t:Int))) gu K k7 (jm (L'.set (j+k) 0))):=hid ((show Ub (wr.setCell ⟨gu,j+k,none⟩ (.int .i64 0)) gu K k7 (jm (L'.set (j+k) 0)) by rw[←Jc];exact hU.out.put _ _).other (by show gu≠wo.heap.size;omega) _);have HQ3:Hid (ja ((wr.setCell ⟨gu,j+k,none⟩ (.int .i64 0)).setCell ⟨wo.heap.size,j,none⟩ (.int .i64 (t:Int))) wo.heap.size 3 (jm (Q.set j t))):=hid (by rw[←Jc];exact(hQ.out.other (by show wo.heap.size≠gu;omega) _).put _ _);have HB3:Hid (Below W2.heap.size W2 ((wr.setCell ⟨gu,j+k,none⟩ (.int .i64 0)).setCell ⟨wo.heap.size,j,none⟩ (.int .i64 (t:Int)))):=hid ((hB.out.setCell (p:=⟨gu,j+k,none⟩) hgu _).setCell (p:=⟨wo.heap.size,j,none⟩) hbs _)
        have hqn:gu≠wo.heap.size:=by omega
        have hzI:(z:Int)<1000000000:=by unfold B9 at hzb;omega
        have hjM2:(j:Int)<(M:Int):=by omega
        generalize Q[j]?.getD 0=qo at *;clear hS2 hz1 hmain hge HF hS hU hQ hB hzb hk e1 hjv hl'
        go_wp2
        go_roundg j
        case rel=>exact⟨_,_,by go_num,by omega,HN,HU3,HQ3,HB3⟩
        case measure=>omega
      | succ h=>
       have hkn:k<nv:=by have:=hk.out;omega
       have hkI:(k:Int)<(nv:Int):=by omega
       have hck1:=HVC.out wr k hB.out hkn;have hck2:=(hU.out.cell (i:=k+j) (by have:=HJN.out;omega)).trans (qq L' (k+j) (by have:=HJN.out;omega));have hfr:=hU.out.free (k+j)
       have hkj:(k:Int)+(j:Int)<(K:Int):=by have:=HJN.out;omega
       have vb:vs[k]?.getD 0<B9:=kR HO3.out k;have zb:=kR hS.out.2.1 (k+j)
       have HN:=fun d br' h1 h2 h3=>hS.out.step (d:=d) (br':=br') (by have:=HVN.out;omega) (by have:=HVN.out;have:=HJN.out;have:=HLU.out;omega) h1 h2 h3
       rw[Qcr j k] at HN;have HU2:Hid (∀d:Nat,Ub (wr.setCell ⟨gu,k+j,none⟩ (.int .i64 (d:Int))) gu K k7 (jm (L'.set (k+j) d))):=hid (fun d=>by rw[←Jc];exact hU.out.put _ _);have HQ2:Hid (∀d:Nat,ja (wr.setCell ⟨gu,k+j,none⟩ (.int .i64 (d:Int))) wo.heap.size 3 (jm Q)):=hid (fun d=>hQ.out.other (by show wo.heap.size≠gu;omega) _);have HB2:Hid (∀d:Nat,Below W2.heap.size W2 (wr.setCell ⟨gu,k+j,none⟩ (.int .i64 (d:Int)))):=hid (fun d=>hB.out.setCell (p:=⟨gu,k+j,none⟩) hgu _);generalize vs[k]?.getD 0=v at *;generalize L'[k+j]?.getD 0=z at *
       have hvI:(v:Int)<1000000000:=by unfold B9 at vb;omega
       have hzI:(z:Int)<1000000000:=by unfold B9 at zb;omega
       obtain⟨s1,s2,s3⟩:=OY z v t c zb vb ht9 (by unfold B9;omega)
       obtain⟨tv,htv⟩:∃tv,v*t=tv:=⟨_,rfl⟩
       rw[htv] at s1
       have htvI:(tv:Int)<1000000000000000000:=by clear s2 s3;omega
       obtain⟨P,hP⟩:∃P,v*t+c=P:=⟨_,rfl⟩
       have hPI:(tv:Int)+(c:Int)=(P:Int):=by rw[←hP,←htv];rfl
       have hPb:(P:Int)<1000000000000000000:=by clear s2 s3;omega
       rw[hP] at s2 s3
       have Q1:(P:Int)/1000000000=((P/B9:Nat):Int):=by rw[Qbn];rfl
       have Q2:(P:Int)%1000000000=((P%B9:Nat):Int):=by rw[Qce];rfl
       have hzb: -9223372036854775808≤(tv:Int)∧(tv:Int)≤9223372036854775807:=by clear s2 s3 Q1 Q2 hPI;omega
       have HZW:Hid (wrap64 ((t:Int)*(v:Int))=(tv:Int)):=hid (by rw[←QaM,Qam,htv];exact IntWalk.wrap64_in _ hzb);have hpr9:P%B9<B9:=QaI _ (by decide);clear hP htv s1 vb zb hzb;generalize P/B9=pq at *;generalize P%B9=pr at *;rcases Qae z pr with hlt | hge
       ·obtain⟨a1,a2,a3⟩:=s3 hlt
        have HS:=hid (HN _ _ a2 a1 a3)
        obtain⟨d2,hd2⟩:∃d2,z+B9-pr=d2:=⟨_,rfl⟩
        rw[hd2] at HS a2
        have x1:(z:Int)-(pr:Int)<0:=by clear Q1 Q2;omega
        have x2:(z:Int)-(pr:Int)+1000000000=(d2:Int):=by have h:=hd2;have h2:=hpr9;clear Q1 Q2;unfold B9 at h h2;omega
        have x3:(pq:Int)+1<1000000000:=by have h:=a1;clear Q1 Q2;unfold B9 at h;omega
        have HSU:=hid (HU2.out d2);have HSQ:=hid (HQ2.out d2);have HSB:=hid (HB2.out d2);clear s2 s3 hlt a1 a2 a3 hd2 HN HU2 HQ2 HB2 hpr9;have hzw:=HZW.out;have Hk:=hid hk.out;clear hk
        go_wp2
        go_roundg h
        case rel=>exact⟨k+1,pq+1,_,by go_num,by go_num,by omega,hid (by have:=Hk.out;omega),HS,HSU,HSQ,HSB⟩
        case measure=>omega
       ·obtain⟨a1,a2,a3⟩:=s2 hge
        have HS:=hid (HN _ _ a2 a1 a3)
        obtain⟨d2,hd2⟩:∃d2,z-pr=d2:=⟨_,rfl⟩
        rw[hd2] at HS a2
        have x1:(z:Int)-(pr:Int)=(d2:Int):=by clear Q1 Q2;omega
        have x4:((d2:Int)<0)=False:=eq_false (by clear Q1 Q2;omega)
        have x3:(pq:Int)<1000000000:=by have h:=a1;clear Q1 Q2;unfold B9 at h;omega
        have HSU:=hid (HU2.out d2);have HSQ:=hid (HQ2.out d2);have HSB:=hid (HB2.out d2);clear s2 s3 hge a1 a2 a3 hd2 HN HU2 HQ2 HB2 hpr9;have hzw:=HZW.out;have Hk:=hid hk.out;clear hk
        go_wp2
        go_roundg h
        case rel=>exact⟨k+1,pq,_,by go_num,by go_num,by omega,hid (by have:=Hk.out;omega),HS,HSU,HSQ,HSB⟩
        case measure=>omega
