/- Contract of the reference: Pivots. -/
import Derived.Test.YteagkgagdelklaaGreatDoorZT38
set_option maxRecDepth 100000
set_option maxHeartbeats 100000000
namespace Go.Proofs.YteagkgagdelklaaGreatDoor
open Go.RowKit Go.Lib
theorem PU (A:Option Addr) (c:Nat) (w:World):Calls Tryz.prog 15 #[.slice A 0 c] w fun e w'=>e = .returned (.int .i64 0)∧w=w':=by
 go_enter Tryz.func15,Tryz.ntmps15
 go_wp2
 go_ret;exact⟨rfl,rfl⟩
theorem EW (g m cg n c:Nat) (A:Option Addr) (w:World) (hm:0<m) (hc:w.cell? ⟨g,0,none⟩=some (.slice A n c)):
  Calls Tryz.prog 15 #[.slice (some ⟨g,0,none⟩) m cg] w fun e w'=>e = .returned (.int .i64 n)∧w=w':=by
 have hz:((m:Int)==0)=false:=by simp;omega
 have h0:(0:Int)<(m:Int):=by omega
 go_enter Tryz.func15,Tryz.ntmps15
 go_wp2
 go_ret;exact⟨rfl,rfl⟩
theorem Fw {B:Nat} {n:Nat} {M:List (List Rat)} {w w':World} (hbd:∀r∈M,∀x∈r,Bq B x) (h0:M.length=0∨n=0) (hN:(M[0]?.map (·.length)).getD 0=n) (hB:Below w.heap.size w w') (A:Option Addr) (k:Nat) (e:Ending) (he:e = .returned (.tuple #[.slice A 0 k,jn])):G6 B M w e w':=by
 refine⟨hB,M.map (fun L=>(0,0,L)),⟨M.map (fun L=>(0,0,L)),[],[],false⟩,.slice A 0 k,jn,by rw[Qcs];simp[Function.comp_def],?_,he,?_,x9 (World.ownsRow_nil w' 0 3 1) (by omega),by simp,by simp,fun r hr x hx=> ?_⟩
 ·rcases h0 with h | h
  ·exact(V7 (by simp[h])).symm
  ·rw[hN];exact(Wa (by omega)).symm
 ·exact⟨[],⟨A,k,rfl,by simp,by simp,fun h=>by simp at h⟩,by simp,fun i r h=>by simp at h⟩
 ·obtain⟨L,hL,rfl⟩:=List.mem_map.1 hr
  simp only[QbA,Qb0,Qbc];exact hbd L hL x hx
theorem Br {B K s L:Nat} (hB:2≤B) (hs:s+1≤K) (hl:B^5^K<L):(B^5^s)^5<L:=by
 refine Qax ?_ hl;rw[←QbY,←QaD];exact yM hB (Qai (by decide) hs)
theorem Bs {X L e:Nat} (hX:2≤X) (he:e≤5) (hl:X^5<L):X^e<L:=Qax (yM hX he) hl
theorem YB {B s:Nat} (hB:2≤B):2≤B^5^s:=Qap hB (by have:=yM hB (show 1≤5^s from Qcm _ _ (by decide));rwa [Qbc] at this)
set_option linter.unusedSimpArgs false in
theorem Mv (B K:Nat) (v:Value) (M:List (List Rat)) (w:World) (hv:yk w v M) (hm:M.length≤256) (hn:(M[0]?.map (·.length)).getD 0≤256) (hr:∀r∈M,r.length=(M[0]?.map (·.length)).getD 0)
  (hB:2≤B) (hbd:∀r∈M,∀x∈r,Bq B x) (hK:M.length≤K∨(M[0]?.map (·.length)).getD 0≤K) (hlim:B^5^K<B9^jW):
  Calls Tryz.prog 41 #[v] w (G6 B M w):=by
 generalize hne:(M[0]?.map (·.length)).getD 0=n at *;have HN:=hid hne;have HBD:=hid hbd;have HLM:=hid hlim;have CL:=hid (LH v M n w hv hm hn hr);obtain⟨vs,hvs,hvl,hvr⟩:=hv;obtain⟨A,c,rfl,hc1,hc2⟩:=hvs.form;rw[hvl] at CL hc1;rw[hvl];obtain⟨i0,hi0,hz0,hz1,hz2⟩:=info_parts zd;have HB2:=hid hB;clear hvs hvr hr hne hbd hlim hB;generalize hLL:B9^jW=LL at *;have HLL:=hid hLL;clear hLL;go_enter Tryz.func41,Tryz.ntmps41
 go_wp2_with fail
 refine(CL.out).mono ?_;rintro e wr ⟨u,us,rfl,hT,hW⟩;have HT:=hid hT;have HW:=hid hW;clear hT hW CL;by_cases hz:M.length=0∨n=0
 ·have HPN:=hid (fun A k e (he:e=Ending.returned (.tuple #[.slice A 0 k,jn]))=>Fw (w:=w) (w':=wr) HBD.out hz HN.out HW.out A k e he)
  obtain⟨A6,k6,rfl,hk61,hk62⟩:=jX HT.out.own;rcases QaA M.length with hm0 | hm0
  ·rw[hm0] at hk61 ⊢
   clear HT hz;have WZ:=hid (fun W=>PU A6 k6 W)
   go_wp2_with fail
   go_loopg [4,5] 0 (fun gh cv ci wx=>cv=jn∧ci = .int .i64 0∧wr=wx)
   case atStart=>exact⟨rfl,rfl,rfl⟩
   case round=>
    obtain⟨rfl,rfl,rfl⟩:=hrel
    go_wp2_with fail
    refine(WZ.out _).mono ?_;rintro e w5 ⟨rfl,rfl⟩
    go_wp2
    go_ret2;exact HPN.out _ _ _ rfl
  ·have hn0:n=0:=by omega
   obtain⟨u0,hu0,ho0⟩:=HT.out.row 0 _ (Qaa hm0);obtain⟨A0,k0,rfl,-,-⟩:=jX ho0;obtain⟨g,hg6,-,hgl,hcell⟩:=Jf HT.out.own (j:=0) hm0;obtain rfl:=hg6;have hc0:=(hcell 0 hm0).trans hu0;subst hn0;have WZ:=hid (EW g M.length k6 0 k0 A0 wr hm0 hc0);clear HT hz hcell ho0 hu0 hc0
   go_wp2_with fail
   go_loopg [4,5] 0 (fun gh cv ci wx=>cv=jn∧ci = .int .i64 0∧wr=wx)
   case atStart=>exact⟨rfl,rfl,rfl⟩
   case round=>
    obtain⟨rfl,rfl,rfl⟩:=hrel
    go_wp2_with fail
    refine(WZ.out).mono ?_;rintro e w5 ⟨rfl,rfl⟩
    go_wp2
    go_ret2;exact HPN.out _ _ _ rfl
 ·have hn0:0<n:=by omega
  have hm0:(0:Int)<(M.length:Int):=by omega
  have hm1:0<M.length:=by omega
  obtain⟨g,cg,R,rfl,hRv,hbg,hbk,hMX⟩:=HT.out.mx hn0 hm1
  have hRl:R.length=M.length:=by have:=congrArg List.length hRv;rwa [Qar] at this
  have HRV:=hid hRv;have HBK:=hid (And.intro hbg hbk);have HRl:=hid hRl
  have HI0:Hid (zq B n g cg R wr wr ⟨R,[],[],false⟩ 0 jn):=hid ⟨⟨hMX,World.ownsRow_nil _ _ _ _,rfl,List.Perm.refl _,fun _ h=>hMX.lt h,jO.refl _ _⟩,by omega,by simp,by simp,fun i h1 h2 k hk=>by omega,by simp,fun r hr x hx=>by
    have:r.2.2∈M:=by rw[←hRv];exact Qa1 hr
    simp only[QbA,Qb0,Qbc]
    exact HBD.out _ this x hx⟩
  have hcg:=hMX.own.2.1;have hcg2:=hMX.own.2.2.1;rw[hRl] at hcg;have HKK:Hid (∀s k,s<M.length→s≤k→k<n→s+1≤K):=hid (fun s k h1 h2 h3=>by omega);clear HT hRv hbg hbk hMX hRl hz hK
  go_wp2_with fail
  obtain⟨w1,rfl⟩:∃w1,w1=wr:=⟨_,rfl⟩
  go_loopg [4,5] n (fun gh cv ci wx=>∃(S:jw Rat) (k:Nat),ci = .int .i64 k∧k+gh=n∧Hid (zq B n g cg R w1 wx S k cv))
  case atStart=>exact⟨⟨R,[],[],false⟩,0,rfl,by omega,HI0⟩
  case round=>
   clear HI0;obtain⟨S,k,rfl,hk,hI⟩:=hrel;have hSl:S.rows.length=M.length:=hI.out.mid.len.trans HRl.out
   obtain⟨r0,hr0⟩:∃r,S.rows[0]? =some r:=⟨S.rows[0]'(by omega),Qaa _⟩
   have hc0:=hI.out.mid.mx.cellRow hr0;unfold jV at hc0;have WC:=hid (EW g M.length cg n r0.2.1 (some ⟨r0.1,0,none⟩) wr hm1 hc0);obtain⟨A1,k1,hcv,hcv1,hcv2⟩:=jX hI.out.mid.cown;subst hcv;have hgl:=hI.out.mid.mx.own.lt;have hqm:=hI.out.hq;rw[HRl.out] at hqm;have HSl:=hid hSl;have Hk:=hid hk
   have HBf:Hid (Below w.heap.size w wr):=hid (HW.out.trans (by
    have hb:=hI.out.mid.buts
    exact⟨hb.os,hb.tape,hb.output,hb.size,fun i hi=>hb.block i (Qac hi HW.out.size) (fun hm=>by
     rcases List.mem_cons.1 hm with rfl | hm
     ·have:=HBK.out.1;omega
     ·have:=HBK.out.2 _ hm;omega)⟩))
   clear hr0 hSl;by_cases hkn:k=n
   ·have hin1:¬((k:Int)<(n:Int)):=by omega
    have HD:=hid (hI.out.done (.inl (by omega)));have HTx:=hid (hI.out.mid.mx.tblX (k:=S.cols.length) (by rw[HSl.out];omega) (by rw[HSl.out];omega) (by omega));have HC:=hid (x9 hI.out.mid.cown (by omega));have HQ:=hid (And.intro hI.out.hqc hI.out.bd);clear hI hk hkn hc0
    go_wp2_with fail
    refine(WC.out).mono ?_;rintro e w5 ⟨rfl,rfl⟩;clear WC
    go_wp2
    go_ret2;exact⟨HBf.out,R,S,_,_,HRV.out,by rw[HN.out];exact HD.out,rfl,HTx.out,HC.out,by rw[HRl.out];exact hqm,by have:=HQ.out.1;have:=Hk.out;rw[HN.out];omega,HQ.out.2⟩
   ·have hin1:((k:Int)<(n:Int)):=by omega
    have hkn':k<n:=by omega
    by_cases hend:S.cols.length=M.length
    ·have hin2:¬((S.cols.length:Int)<(M.length:Int)):=by omega
     have HD:=hid (hI.out.done (.inr (by rw[HRl.out];exact hend)));have HTx:=hid (hI.out.mid.mx.tblX (k:=S.cols.length) (by rw[HSl.out];omega) (by rw[HSl.out];omega) (by omega));have HC:=hid (x9 hI.out.mid.cown (by omega));have Hend:=hid hend;have HQ:=hid (And.intro hI.out.hqc hI.out.bd);clear hI hk hkn hc0
     go_wp2_with fail
     refine(WC.out).mono ?_;rintro e w5 ⟨rfl,rfl⟩;clear WC
     go_wp2
     go_ret2;refine⟨HBf.out,R,S,_,_,HRV.out,by rw[HN.out];exact HD.out,rfl,?_,?_,by rw[HRl.out];exact hqm,by have:=HQ.out.1;have:=Hk.out;rw[HN.out];omega,HQ.out.2⟩
     ·have h:=HTx.out
      rw[Hend.out] at h ⊢;exact h
     ·have h:=HC.out
      rw[Hend.out] at h;exact h
    ·have hin2:((S.cols.length:Int)<(M.length:Int)):=by omega
     have hq1:S.cols.length<M.length:=by omega
     have HKs:=hid (HKK.out S.cols.length k hq1 hI.out.hqc hkn')
     cases gk with
     | zero=>exact absurd hk (by omega)
     | succ gh=>
      clear hk hkn hend
      go_wp2_with fail
      refine(WC.out).mono ?_;rintro e w5 ⟨rfl,rfl⟩;clear WC
      go_wp2_with fail
      obtain⟨wb,rfl⟩:∃wb,wb=wr:=⟨_,rfl⟩
      go_loopg [6] (M.length-S.cols.length) (fun gh2 at_ wx=>∃t:Nat,at_ = .int .i64 t∧S.cols.length≤t∧t+gh2=M.length∧Hid (∀i,S.cols.length≤i→i<t→xi S.rows i k=0)∧wb=wx)
      case atStart=>exact⟨S.cols.length,rfl,Nat.le_refl _,by omega,hid (fun i h1 h2=>by omega),rfl⟩
      case round=>
       obtain⟨t,rfl,ht1,ht2,hZ,rfl⟩:=hrel;by_cases htm:t=M.length
       ·have htn:¬((t:Int)<(M.length:Int)):=by omega
        have hte:((t:Int)==(M.length:Int))=true:=by simp;omega
        have HS:=hid (hI.out.skip hkn' (fun i h1 h2=>hZ.out i h1 (by have:=HRl.out;omega)));clear hZ hI htm ht2
        go_wp2
        go_roundg gh
        case rel=>exact⟨S,k+1,by go_num,by have:=Hk.out;omega,HS⟩
        case measure=>omega
       ·have htn:((t:Int)<(M.length:Int)):=by omega
        have htl:t<M.length:=by omega
        obtain⟨rt,hrt⟩:∃r,S.rows[t]? =some r:=⟨S.rows[t]'(by have:=HSl.out;omega),Qaa _⟩
        have hct:=hI.out.mid.mx.cellRow hrt;have hcx:=hI.out.mid.mx.cellNum hrt hkn'
        have hte:((t:Int)==(M.length:Int))=false:=by simp;omega
        unfold jV at hct;unfold qx at hcx;have Hx0:Hid (xi S.rows t k=rt.2.2[k]?.getD 0):=hid (QE hrt);have IZ:=hid (U3 (rt.2.2[k]?.getD 0) wb);by_cases hx:rt.2.2[k]?.getD 0=0
        ·have hxb:decide (rt.2.2[k]?.getD 0=0)=true:=by simp[hx]
         have HZ:Hid (∀i,S.cols.length≤i→i<t+1→xi S.rows i k=0):=hid (fun i h1 h2=>by
          rcases Qae i t with h3 | h3
          ·exact hZ.out i h1 h3
          ·have:i=t:=by omega
           rw[this,Hx0.out,hx])
         cases gk with
         | zero=>exact absurd ht2 (by omega)
         | succ gh2=>
          have Ht2:=hid ht2;clear hrt hZ Hx0 hx ht2 htm;generalize rt.2.2[k]?.getD 0=x at *
          go_wp2_with fail
          refine(IZ.out).mono ?_;rintro e w6 ⟨rfl,rfl⟩;rw[hxb]
          go_wp2
          go_roundg gh2
          case rel=>exact⟨t+1,by go_num,by omega,by have:=Ht2.out;omega,HZ,rfl⟩
          case measure=>omega
        ·have hxb:decide (rt.2.2[k]?.getD 0=0)=false:=by simp[hx]
         have Hd:Hid (xi S.rows t k≠0):=hid (by rw[Hx0.out];exact hx)
         obtain⟨rq,hrq⟩:∃r,S.rows[S.cols.length]? =some r:=⟨S.rows[S.cols.length]'(by have:=HSl.out;omega),Qaa _⟩
         have hcq:=hI.out.mid.mx.cellRow hrq;have hft:=hI.out.mid.mx.own.free t;have hfq:=hI.out.mid.mx.own.free S.cols.length;have HE2:=hid (hI.out.mid.swap hrt hrq);have Hrow:=hid (Q0 hrt hrq);have HQe:Hid (j8 t S=kU S.rows t S.cols.length):=hid (Zp (by have:=HSl.out;omega));have H0:Hid (∀l,l<k→rt.2.2[l]?.getD 0=0):=hid (fun l hl=>by rw[←QE hrt];exact hI.out.rest t ht1 (by have:=HRl.out;omega) l hl);have HBs:Hid (2≤B^5^S.cols.length):=hid (YB HB2.out);have HLs:Hid ((B^5^S.cols.length)^5<LL):=hid (Br HB2.out HKs.out HLM.out);have HIn:Hid (∀x∈rt.2.2,Bq (B^5^S.cols.length) x):=hid (hI.out.bd _ (Qab hrt));have HQin:Hid (∀r∈j8 t S,∀x∈r.2.2,Bq (B^5^S.cols.length) x):=hid (by rw[HQe.out];exact fun r hr=>hI.out.bd r (Ki hr));have Hil:Hid (rt.2.2.length=n):=hid (hI.out.mid.mx.len (Qab hrt));unfold jV at hcq HE2
         obtain⟨z2,hz2⟩:∃z,(wb.setCell ⟨g,t,none⟩ (.slice (some ⟨rq.1,0,none⟩) n rq.2.1)).cell? ⟨g,S.cols.length,none⟩=some z:=by
          rw[(hI.out.mid.mx.own.put t (.slice (some ⟨rq.1,0,none⟩) n rq.2.1)).cell (by rw[HSl.out];exact hq1)];exact⟨_,Qaa (by rw[Qbz,Qar,HSl.out];exact hq1)⟩
         clear hrt hrq ht2 htm;obtain⟨ib,ic,il⟩:=rt;obtain⟨tb,tc,tl⟩:=rq;dsimp only at hct hcx hcq HE2 hz2 hx hxb H0 HIn Hil Hx0 IZ Hrow;have Hne:=hid hx;have HMul:Hid ((il.mapIdx fun _ x=>x*(il[k]?.getD 0)⁻¹)=j3 jc (il[k]?.getD 0) k il):=hid (Cj H0.out);have HSt:=hid (fun Q (h:Q.length=R.length) (e:j8 t S=Q) (hr:Q[S.cols.length]? =some (ib,ic,il))=>congrArg jw.rows (XL (F:=jc) (S:=S) (i:=t) (j:=k) (x:=il[k]?.getD 0) e hr rfl rfl h));rw[←HQe.out] at Hrow HE2;have HSt2:=hid (HSt.out _ HE2.out.len rfl Hrow.out);have HDq:Hid (Bq (B^5^S.cols.length) (il[k]?.getD 0)):=hid (Bq.at HBs.out HIn.out k);generalize B^5^S.cols.length=X at *;clear HQe HSt Hx0 hx;generalize j8 t S=Q at *;generalize hde:il[k]?.getD 0=d at *;have Hde:=hid hde;clear hde
         go_wp2_with fail
         refine(IZ.out).mono ?_;rintro e w6 ⟨rfl,rfl⟩;rw[hxb];clear IZ hxb
         go_upto_region 11 with fail
         go_region
         obtain⟨w2,hw2⟩:∃w2,w2=((wb.setCell ⟨g,t,none⟩ (.slice (some ⟨tb,0,none⟩) n tc)).setCell ⟨g,S.cols.length,none⟩ (.slice (some ⟨ib,0,none⟩) n ic)).drew:=⟨_,rfl⟩
         rw[←hw2] at HE2;rw[←hw2];clear hw2 hz2 hct hcx hcq hft hfq hgl hc0 hte htn;have hcr:=HE2.out.mx.cellRow Hrow.out;have hcd:=HE2.out.mx.cellNum Hrow.out hkn';have hgl:=HE2.out.mx.own.lt;unfold jV at hcr;unfold qx at hcd;dsimp only at hcr hcd;rw[Hde.out] at hcd;have BX:Hid (∀e x,e≤5→Bq (X^e) x→qA x):=hid (fun e x he h=>h.bigH (by rw[HLL.out];exact Bs HBs.out he HLs.out));have IV:=hid (Sa d w2 (BX.out 1 d (by decide) (by rw[Qbc];exact HDq.out)) Hne.out)
         go_wp2_with fail
         refine(IV.out).mono ?_;rintro e w4 ⟨rfl,hB4⟩;have HE4:=hid (HE2.out.below hB4);have hgl4:=HE4.out.mx.own.lt;clear HE2 hB4 hcr hcd hgl IV
         go_wp2_with fail
         go_loopg [9] n (fun gh2 ik wx=>∃j:Nat,ik = .int .i64 j∧j+gh2=n∧Hid (qe n g cg R w1 wx S.cols (setRow Q S.cols.length (qM (fun _ x=>x*d⁻¹) il j)) (.slice A1 S.cols.length k1)))
         case atStart=>exact⟨0,rfl,by omega,hid (by rw[EN,Yo Hrow.out];exact HE4.out)⟩
         case round=>
          clear HE4 hgl4;obtain⟨j,rfl,hj,hE⟩:=hrel;have hrow2:=qG Hrow.out (qM (fun _ x=>x*d⁻¹) il j);have hcr:=hE.out.mx.cellRow hrow2;have hgl:=hE.out.mx.own.lt;unfold jV at hcr;dsimp only at hcr
          cases gk with
          | zero=>
           have hjn:¬((j:Int)<(n:Int)):=by omega
           have hjn':j=n:=by omega
           have HE5:Hid (qe n g cg R w1 wr S.cols (setRow Q S.cols.length (j3 jc d k il)) (.slice A1 S.cols.length k1)):=hid (by
            have h:=hE.out
            have e:qM (fun _ x=>x*d⁻¹) il n=j3 jc d k il:=by rw[←HMul.out,←Hil.out];exact EJ
            rwa [hjn',e] at h)
           have HP0:=hid (NT (d:=d) H0.out);have HPin:=hid (Zg HBs.out HDq.out Hne.out (o:=k) HIn.out);have HPl:Hid ((j3 jc d k il).length=n):=hid (by rw[Jz];exact Hil.out);have Hrow2:=hid (qG Hrow.out (j3 jc d k il))
           have HQ2:Hid (∀i r,i≠S.cols.length→(setRow Q S.cols.length (j3 jc d k il))[i]? =some r → ∀x∈r.2.2,Bq X x):=hid (fun i r hi hr=>by
            rw[xQ (fun e=>hi e.symm)] at hr
            exact HQin.out r (Qab hr))
           clear hE hj hjn' hrow2 HMul H0 HIn Hrow Hil HQin;generalize j3 jc d k il=P at *;generalize setRow Q S.cols.length P=Q2 at *
           go_wp2_with fail
           go_loopg [10] M.length (fun gh3 ii wx=>∃i:Nat,ii = .int .i64 i∧i+gh3=M.length∧Hid (qe n g cg R w1 wx S.cols (jY jc S.cols.length k P Q2 i) (.slice A1 S.cols.length k1)))
           case atStart=>exact⟨0,rfl,by omega,hid (by rw[Xz];exact HE5.out)⟩
           case round=>
            have HQl:Hid (Q2.length=M.length):=hid (by rw[←HRl.out];exact HE5.out.len);clear HE5 hgl hjn hcr;obtain⟨i,rfl,hi,hE⟩:=hrel
            cases gk with
            | zero=>
             have him:¬((i:Int)<(M.length:Int)):=by omega
             have HE6:Hid (qe n g cg R w1 wr S.cols (kg jc t k S).rows (.slice A1 S.cols.length k1)):=hid (by
              have him':i=R.length:=by have:=HRl.out;omega
              rw[HSt2.out,←him'];exact hE.out)
             have hsz:=HE6.out.buts.size;clear hE hi
             go_wp2_with (at_builtin;(refine wpList_append_own _ rfl _ _ 41 rfl w1.heap.size 3 i0 (.int .i64 0) 1 8 Tryz.underlying41 hi0 hz0 hz1 hz2 rfl (by decide) _ _ _ rfl (HE6.out.cown.alloc _) ⟨wr.heap.size,0,none⟩ 1 1 [.int .i64 k] rfl rfl (cell_one_new _ _ _) (fun x hx=>by simp at hx;subst hx;rfl) (by unfold maxLen;omega) (by omega) (by simp;omega) ?_;intro v7 w7 hown7 hgrow7 _))
             have HE7:=hid (HE6.out.addCol hown7 hgrow7)
             go_roundg gh
             case rel=>exact⟨kg jc t k S,k+1,by go_num,by have:=Hk.out;omega,hid (hI.out.step HB2.out ht1 (by have:=HRl.out;omega) hkn' Hd.out hZ.out HE7.out)⟩
             case measure=>omega
            | succ gh3=>
             have hil:i<M.length:=by omega
             have hil':((i:Int)<(M.length:Int)):=by omega
             obtain⟨ri,hri⟩:∃r,Q2[i]? =some r:=⟨Q2[i]'(by rw[HQl.out];exact hil),Qaa _⟩
             have hri':=(Ql (F:=jc) (R:=Q2) (top:=S.cols.length) (o:=k) (P:=P) i).trans hri;have hci:=hE.out.mx.cellRow hri';have hcx:=hE.out.mx.cellNum hri' hkn';have hgl:=hE.out.mx.own.lt;have Hi:=hid hi;unfold jV at hci;unfold qx at hcx;by_cases hiq:i=S.cols.length
             ·have hne:((i:Int)==(S.cols.length:Int))=true:=by simp;omega
              have HE6:Hid (qe n g cg R w1 wr S.cols (jY jc S.cols.length k P Q2 (i+1)) (.slice A1 S.cols.length k1)):=hid (by rw[hiq,Xw];have:=hE.out;rw[hiq] at this;exact this);clear hE hiq hri hri' hi;obtain⟨kb,kc,kl⟩:=ri;dsimp only at hci hcx;generalize kl[k]?.getD 0=x at *
              go_wp2
              go_roundg gh3
              case rel=>exact⟨i+1,by go_num,by have:=Hi.out;omega,HE6⟩
              case measure=>omega
             ·have hne:((i:Int)==(S.cols.length:Int))=false:=by simp;omega
              have hkin:=HQ2.out i ri hiq hri;have hkl:=hE.out.mx.len (Qab hri');have htop:=(Xy (F:=jc) (R:=Q2) (top:=S.cols.length) (o:=k) (P:=P) i).trans Hrow2.out;have Hsu:=hid (Xx (F:=jc) (top:=S.cols.length) (o:=k) (P:=P) hiq hri);have HR1:=hid hri';have HR2:=hid htop;have Hiq:=hid hiq;clear hri hri' htop hi hiq;obtain⟨kb,kc,kl⟩:=ri;dsimp only at hci hcx hkin hkl Hsu;have HKin:=hid hkin;have Hkl:=hid hkl;have HZq:Hid (Bq X (kl[k]?.getD 0)):=hid (Bq.at HBs.out hkin k);generalize hze:kl[k]?.getD 0=z at *;have Hclr:Hid ((kl.mapIdx fun l x=>x-z*(P[l]?.getD 0))=kY jc k kl P):=hid (T5 HP0.out hze.symm);have IZ2:=hid (U3 z wr);by_cases hz0:z=0
              ·have hzb:decide (z=0)=true:=by simp[hz0]
               have HE6:Hid (qe n g cg R w1 wr S.cols (jY jc S.cols.length k P Q2 (i+1)) (.slice A1 S.cols.length k1)):=hid (by
                have e:kY jc k kl P=kl:=by unfold kY;rw[if_pos (by show decide ((kl[k]?.getD 0)=0)=true;rw[hze];exact hzb)]
                rw[←Hsu.out,e,Yo HR1.out];exact hE.out)
               clear hkin hkl hze hE hz0
               go_wp2_with fail
               refine(IZ2.out).mono ?_;rintro e w6 ⟨rfl,rfl⟩;rw[hzb]
               go_wp2
               go_roundg gh3
               case rel=>exact⟨i+1,by go_num,by have:=Hi.out;omega,HE6⟩
               case measure=>omega
              ·have hzb:decide (z=0)=false:=by simp[hz0]
               have HE6:Hid (qe n g cg R w1 wr S.cols (setRow (jY jc S.cols.length k P Q2 i) i (qM (fun l x=>x-z*(P[l]?.getD 0)) kl 0)) (.slice A1 S.cols.length k1)):=hid (by rw[EN,Yo HR1.out];exact hE.out);clear hkin hkl hze hE hz0;generalize jY jc S.cols.length k P Q2 i=Q3 at *
               go_wp2_with fail
               refine(IZ2.out).mono ?_;rintro e w6 ⟨rfl,rfl⟩;rw[hzb];clear IZ2 hzb
               go_wp2_with fail
               go_loopg [12] n (fun gh4 ll wx=>∃l:Nat,ll = .int .i64 l∧l+gh4=n∧Hid (qe n g cg R w1 wx S.cols (setRow Q3 i (qM (fun l x=>x-z*(P[l]?.getD 0)) kl l)) (.slice A1 S.cols.length k1)))
               case atStart=>exact⟨0,rfl,by omega,HE6⟩
               case round=>
                clear HE6 hci hcx hgl;obtain⟨l,rfl,hl,hE⟩:=hrel;have hrow1:=qG HR1.out (qM (fun l x=>x-z*(P[l]?.getD 0)) kl l);have hci:=hE.out.mx.cellRow hrow1;have hgl:=hE.out.mx.own.lt;have Hl:=hid hl;unfold jV at hci;dsimp only at hci
                cases gk with
                | zero=>
                 have hln:¬((l:Int)<(n:Int)):=by omega
                 have HE7:Hid (qe n g cg R w1 wr S.cols (jY jc S.cols.length k P Q2 (i+1)) (.slice A1 S.cols.length k1)):=hid (by
                  have h:=hE.out
                  have hln':l=kl.length:=by rw[Hkl.out];omega
                  rwa [hln',EJ,Hclr.out,Hsu.out] at h)
                 clear hE hl hrow1
                 go_wp2
                 go_roundg gh3
                 case rel=>exact⟨i+1,by go_num,by have:=Hi.out;omega,HE7⟩
                 case measure=>omega
                | succ gh4=>
                 have hll:l<n:=by omega
                 have hll':((l:Int)<(n:Int)):=by omega
                 have hrow2:=(xQ (fun e=>Hiq.out e) (qM (fun l x=>x-z*(P[l]?.getD 0)) kl l)).trans HR2.out;have hcq:=hE.out.mx.cellRow hrow2;have c1:=hE.out.mx.cellNum hrow1 hll;have c2:=hE.out.mx.cellNum hrow2 hll;have f1:=(hE.out.mx.row _ (Qab hrow1)).free l;have hbl:=(hE.out.mx.row _ (Qab hrow1)).lt;have hbl2:=(hE.out.mx.row _ (Qab hrow2)).lt;unfold jV at hcq;unfold qx at c1 c2;dsimp only at hcq c1 c2 f1 hbl hbl2;rw[EK] at c1;have Hs:Hid ((qM (fun l x=>x-z*(P[l]?.getD 0)) kl l).set l (kl[l]?.getD 0-z*(P[l]?.getD 0))=qM (fun l x=>x-z*(P[l]?.getD 0)) kl (l+1)):=hid (EM (f:=fun l x=>x-z*(P[l]?.getD 0)) (L:=kl) (k:=l) (by rw[Hkl.out];exact hll));have hX2:2≤X*X:=Qap HBs.out (Qbw X (by have:=HBs.out;omega));have HXq:Hid (Bq X (kl[l]?.getD 0)):=hid (Bq.at HBs.out HKin.out l);have HPq:Hid (Bq (X*X) (P[l]?.getD 0)):=hid (Bq.at hX2 HPin.out l);have ML:=hid (fun W=>U6 z (P[l]?.getD 0) W (BX.out 1 _ (by decide) (by rw[Qbc];exact HZq.out)) (BX.out 2 _ (by decide) (by rw[Nat.pow_two];exact HPq.out)));have SB:=hid (fun W=>Se (kl[l]?.getD 0) (z*(P[l]?.getD 0)) W (BX.out 1 _ (by decide) (by rw[Qbc];exact HXq.out)) (BX.out 3 _ (by decide) (by rw[QaD,Nat.pow_two,Qam];exact HZq.out.mul HPq.out)));have HP2:=hid (fun (W:World) (hb:Below wr.heap.size wr W)=>(hE.out.below hb).setNum (j:=l) hrow1 (kl[l]?.getD 0-z*(P[l]?.getD 0)))
                 have hl9:(l:Int)<256:=by omega
                 have HCW:=hid (fun (W:World) (hb:Below wr.heap.size wr W)=>((hE.out.below hb).mx.row _ (Qab hrow1)).free l);clear hrow1 hrow2 hE hl hX2;generalize kl[l]?.getD 0=x at *;generalize P[l]?.getD 0=u at *
                 (try clear HN);(try clear HBD);(try clear HLM);(try clear HLL);(try clear HW);(try clear HRV);(try clear HBK);(try clear HRl);(try clear HKK);(try clear hI);(try clear HSl);(try clear Hk);(try clear HBf);(try clear HKs);(try clear hZ);(try clear Hd);(try clear Hne);(try clear HSt2);(try clear HDq);(try clear HLs);(try clear HBs);(try clear HPl);(try clear HPin);(try clear HP0);(try clear HQ2);(try clear HQl);(try clear HR1);(try clear HR2);(try clear Hiq);(try clear HKin);(try clear Hkl);(try clear HZq);(try clear Hclr);(try clear Hsu);(try clear Hde);(try clear Hrow2);(try clear BX);(try clear Hi);(try clear hqm);(try clear hin1);(try clear hin2);(try clear hkn');(try clear ht1);(try clear htl);(try clear hne);(try clear HXq);(try clear HPq);(try clear HB2);(try clear hcv1);(try clear hcv2);(try clear hc1);(try clear hc2);(try clear hi0);(try clear hz0);(try clear hz1);(try clear hz2);(try clear hm);(try clear hn);(try clear hvl)
                 have KS:Hid (∀y,Below wr.heap.size wr y→y.cell? ⟨g,i,none⟩=some (.slice (some ⟨kb,0,none⟩) n kc)∧y.cell? ⟨g,S.cols.length,none⟩=some (.slice (some ⟨ib,0,none⟩) n ic)∧y.cell? ⟨kb,l,none⟩=some (.string ⟨(jh x).toArray⟩)∧y.cell? ⟨ib,l,none⟩=some (.string ⟨(jh u).toArray⟩)∧Below wr.heap.size wr y):=hid (fun y hb=>
                  ⟨(hb.cell (p:=⟨g,i,none⟩) hgl).trans hci,(hb.cell (p:=⟨g,S.cols.length,none⟩) hgl).trans hcq,(hb.cell (p:=⟨kb,l,none⟩) hbl).trans c1,(hb.cell (p:=⟨ib,l,none⟩) hbl2).trans c2,hb⟩)
                 go_upto_region 25 with fail
                 refine wp_region_noPanic ?_;refine Mz (S:=fun y=>y.cell? ⟨g,i,none⟩=some (.slice (some ⟨kb,0,none⟩) n kc)∧y.cell? ⟨g,S.cols.length,none⟩=some (.slice (some ⟨ib,0,none⟩) n ic)∧y.cell? ⟨kb,l,none⟩=some (.string ⟨(jh x).toArray⟩)∧y.cell? ⟨ib,l,none⟩=some (.string ⟨(jh u).toArray⟩)∧Below wr.heap.size wr y) (by kernel_rfl) (KS.out _ (Below.refl _ _).drew) (fun hHeld=> ?_);refine kt (i:=0) (v:= ?_) rfl (by kernel_rfl) (by kernel_rfl) (by kernel_rfl) (by kernel_rfl) (fun _ _ _ h=>h) (Or.inl ⟨by rfl,?_⟩) hHeld ?_
                 rotate_left
                 ·(intro y hSy;(try dsimp only at hSy);go_split_ands;go_simp;(try with_reducible rfl))
                 (try simp only[Act.put,Qag,Qaq,Qav])
                 refine kt (i:=1) (v:= ?_) rfl (by kernel_rfl) (by kernel_rfl) (by kernel_rfl) (by kernel_rfl) (fun _ _ _ h=>h) (Or.inl ⟨by rfl,?_⟩) hHeld ?_
                 rotate_left
                 ·(intro y hSy;(try dsimp only at hSy);go_split_ands;go_simp;(try with_reducible rfl))
                 (try simp only[Act.put,Qag,Qaq,Qav])
                 refine kt (i:=2) (v:= ?_) rfl (by kernel_rfl) (by kernel_rfl) (by kernel_rfl) (by kernel_rfl) (fun _ _ _ h=>h) (Or.inl ⟨by rfl,?_⟩) hHeld ?_
                 rotate_left
                 ·(intro y hSy;(try dsimp only at hSy);go_split_ands;go_simp;(try with_reducible rfl))
                 (try simp only[Act.put,Qag,Qaq,Qav])
                 refine kt (i:=3) (v:= ?_) rfl (by kernel_rfl) (by kernel_rfl) (by kernel_rfl) (by kernel_rfl) (fun _ _ _ h=>h) (Or.inl ⟨by rfl,?_⟩) hHeld ?_
                 rotate_left
                 ·(intro y hSy;(try dsimp only at hSy);go_split_ands;go_simp;(try with_reducible rfl))
                 (try simp only[Act.put,Qag,Qaq,Qav])
                 refine kt (i:=4) (v:= ?_) rfl (by kernel_rfl) (by kernel_rfl) (by kernel_rfl) (by kernel_rfl) (fun _ _ _ h=>h) (Or.inl ⟨by rfl,?_⟩) hHeld ?_
                 rotate_left
                 ·(intro y hSy;(try dsimp only at hSy);go_split_ands;go_simp;(try with_reducible rfl))
                 (try simp only[Act.put,Qag,Qaq,Qav])
                 refine kt (i:=5) (v:= ?_) rfl (by kernel_rfl) (by kernel_rfl) (by kernel_rfl) (by kernel_rfl) (fun _ _ _ h=>h) (Or.inl ⟨by rfl,?_⟩) hHeld ?_
                 rotate_left
                 ·(intro y hSy;(try dsimp only at hSy);go_split_ands;go_simp;(try with_reducible rfl))
                 (try simp only[Act.put,Qag,Qaq,Qav])
                 refine kt (i:=6) (v:= ?_) rfl (by kernel_rfl) (by kernel_rfl) (by kernel_rfl) (by kernel_rfl) (fun _ _ _ h=>h) (Or.inl ⟨by rfl,?_⟩) hHeld ?_
                 rotate_left
                 ·(intro y hSy;(try dsimp only at hSy);go_split_ands;go_simp;(try with_reducible rfl))
                 (try simp only[Act.put,Qag,Qaq,Qav])
                 refine kt (i:=7) (v:= ?_) rfl (by kernel_rfl) (by kernel_rfl) (by kernel_rfl) (by kernel_rfl) (fun _ _ _ h=>h) (Or.inl ⟨by rfl,?_⟩) hHeld ?_
                 rotate_left
                 ·(intro y hSy;(try dsimp only at hSy);go_split_ands;go_simp;(try with_reducible rfl))
                 (try simp only[Act.put,Qag,Qaq,Qav])
                 refine kt (i:=8) (v:= ?_) rfl (by kernel_rfl) (by kernel_rfl) (by kernel_rfl) (by kernel_rfl) (fun _ _ _ h=>h) (Or.inl ⟨by rfl,?_⟩) hHeld ?_
                 rotate_left
                 ·(intro y hSy;(try dsimp only at hSy);go_split_ands;go_simp;(try with_reducible rfl))
                 (try simp only[Act.put,Qag,Qaq,Qav])
                 refine kt (i:=9) (v:= ?_) rfl (by kernel_rfl) (by kernel_rfl) (by kernel_rfl) (by kernel_rfl) (fun _ _ _ h=>h) (Or.inl ⟨by rfl,?_⟩) hHeld ?_
                 rotate_left
                 ·(intro y hSy;(try dsimp only at hSy);go_split_ands;go_simp;(try with_reducible rfl))
                 (try simp only[Act.put,Qag,Qaq,Qav])
                 refine kt (i:=10) (v:= ?_) rfl (by kernel_rfl) (by kernel_rfl) (by kernel_rfl) (by kernel_rfl) (fun _ _ _ h=>h) (Or.inl ⟨by rfl,?_⟩) hHeld ?_
                 rotate_left
                 ·(intro y hSy;(try dsimp only at hSy);go_split_ands;go_simp;(try with_reducible rfl))
                 (try simp only[Act.put,Qag,Qaq,Qav])
                 refine kt (i:=11) (v:= ?_) rfl (by kernel_rfl) (by kernel_rfl) (by kernel_rfl) (by kernel_rfl) (fun _ _ _ h=>h) (Or.inl ⟨by rfl,?_⟩) hHeld ?_
                 rotate_left
                 ·(intro y hSy;(try dsimp only at hSy);go_split_ands;go_simp;(try with_reducible rfl))
                 (try simp only[Act.put,Qag,Qaq,Qav])
                 refine kt (i:=12) (v:= ?_) rfl (by kernel_rfl) (by kernel_rfl) (by kernel_rfl) (by kernel_rfl) (fun _ _ _ h=>h) (Or.inl ⟨by rfl,?_⟩) hHeld ?_
                 rotate_left
                 ·(intro y hSy;(try dsimp only at hSy);go_split_ands;go_simp;(try with_reducible rfl))
                 (try simp only[Act.put,Qag,Qaq,Qav])
                 refine kt (i:=13) (v:= ?_) rfl (by kernel_rfl) (by kernel_rfl) (by kernel_rfl) (by kernel_rfl) (fun _ _ _ h=>h) (Or.inl ⟨by rfl,?_⟩) hHeld ?_
                 rotate_left
                 ·(intro y hSy;(try dsimp only at hSy);go_split_ands;go_simp;(try with_reducible rfl))
                 (try simp only[Act.put,Qag,Qaq,Qav])
                 refine kt (i:=14) (v:= ?_) rfl (by kernel_rfl) (by kernel_rfl) (by kernel_rfl) (by kernel_rfl) (fun _ _ _ h=>h) (Or.inl ⟨by rfl,?_⟩) hHeld ?_
                 rotate_left
                 ·(intro y hSy;(try dsimp only at hSy);go_split_ands;go_simp;(try with_reducible rfl))
                 (try simp only[Act.put,Qag,Qaq,Qav])
                 refine kt (i:=15) (v:= ?_) rfl (by kernel_rfl) (by kernel_rfl) (by kernel_rfl) (by kernel_rfl) (fun _ _ _ h=>h) (Or.inl ⟨by rfl,?_⟩) hHeld ?_
                 rotate_left
                 ·(intro y hSy;(try dsimp only at hSy);go_split_ands;go_simp;(try with_reducible rfl))
                 (try simp only[Act.put,Qag,Qaq,Qav])
                 refine kt (i:=16) (v:= ?_) rfl (by kernel_rfl) (by kernel_rfl) (by kernel_rfl) (by kernel_rfl) (fun _ _ _ h=>h) (Or.inl ⟨by rfl,?_⟩) hHeld ?_
                 rotate_left
                 ·(intro y hSy;(try dsimp only at hSy);go_split_ands;go_simp;(try with_reducible rfl))
                 (try simp only[Act.put,Qag,Qaq,Qav])
                 refine kt (i:=17) (v:= ?_) rfl (by kernel_rfl) (by kernel_rfl) (by kernel_rfl) (by kernel_rfl) (fun _ _ _ h=>h) (Or.inl ⟨by rfl,?_⟩) hHeld ?_
                 rotate_left
                 ·(intro y hSy;(try dsimp only at hSy);go_split_ands;go_simp;(try with_reducible rfl))
                 (try simp only[Act.put,Qag,Qaq,Qav])
                 refine kt (i:=18) (v:= ?_) rfl (by kernel_rfl) (by kernel_rfl) (by kernel_rfl) (by kernel_rfl) (fun _ _ _ h=>h) (Or.inl ⟨by rfl,?_⟩) hHeld ?_
                 rotate_left
                 ·(intro y hSy;(try dsimp only at hSy);go_split_ands;go_simp;(try with_reducible rfl))
                 (try simp only[Act.put,Qag,Qaq,Qav])
                 refine kt (i:=19) (v:= ?_) rfl (by kernel_rfl) (by kernel_rfl) (by kernel_rfl) (by kernel_rfl) (fun _ _ _ h=>h) (Or.inl ⟨by rfl,?_⟩) hHeld ?_
                 rotate_left
                 ·(intro y hSy;(try dsimp only at hSy);go_split_ands;go_simp;(try with_reducible rfl))
                 (try simp only[Act.put,Qag,Qaq,Qav])
                 have hb0:=hHeld.2.2.2.2;refine YU (i:=20) (by kernel_rfl) rfl (fun K hK=> ?_)
                 go_simp
                 refine(ML.out _).mono ?_;rintro e w5 ⟨rfl,hB5⟩;have hb5:=hb0.trans (hB5.mono hb0.size);refine hK.out _ _ (KS.out _ hb5) (fun hHeld5=> ?_);clear hK K hB5 hHeld
                 (try simp only[Act.put,Qag,Qaq,Qav])
                 refine YU (i:=21) (by kernel_rfl) rfl (fun K hK=> ?_)
                 go_simp
                 refine(SB.out _).mono ?_;rintro e w6 ⟨rfl,hB6⟩;have hb6:=hb5.trans (hB6.mono hb5.size);refine hK.out _ _ (KS.out _ hb6) (fun hHeld6=> ?_);clear hK K hB6 hHeld5
                 (try simp only[Act.put,Qag,Qaq,Qav])
                 refine kt (i:=22) (v:= ?_) rfl (by kernel_rfl) (by kernel_rfl) (by kernel_rfl) (by kernel_rfl) (fun _ _ _ h=>h) (Or.inl ⟨by rfl,?_⟩) hHeld6 ?_
                 rotate_left
                 ·(intro y hSy;(try dsimp only at hSy);go_split_ands;go_simp;(try with_reducible rfl))
                 (try simp only[Act.put,Qag,Qaq,Qav])
                 obtain⟨s0,s1,s2,s3,-⟩:=hHeld6;have ff:=HCW.out w6 hb6;refine Vi (i:=23) (by kernel_rfl) rfl (by kernel_rfl) (by kernel_rfl) (fun K hK=> ?_)
                 go_simp
                 refine hK.out _ _ ?_;clear hK K;refine NoPanic.normal ?_
                 (try simp only[Act.put,Qag,Qaq,Qav])
                 have hE6:=HP2.out w6 hb6;rw[UB] at hE6;dsimp only at hE6;rw[Hs.out] at hE6;have HE6:=hid hE6;clear hE6 s0 s1 s2 s3 ff hb6 hb5 hb0 hci c1 f1 hcq c2 KS
                 go_wp2
                 go_roundg gh4
                 case rel=>exact⟨l+1,by go_num,by have:=Hl.out;omega,HE6⟩
                 case measure=>omega
          | succ gh2=>
           have hjl:j<n:=by omega
           have hjl':((j:Int)<(n:Int)):=by omega
           have c1:=hE.out.mx.cellNum hrow2 hjl;have f1:=(hE.out.mx.row _ (Qab hrow2)).free j;have hbl:=(hE.out.mx.row _ (Qab hrow2)).lt;have Hs:=hid (EM (f:=fun _ x=>x*d⁻¹) (L:=il) (k:=j) (by rw[Hil.out];exact hjl));dsimp only at c1 f1 hbl;rw[EK] at c1;have HXq:Hid (Bq X (il[j]?.getD 0)):=hid (Bq.at HBs.out HIn.out j);have ML:=hid (fun W=>U6 (il[j]?.getD 0) d⁻¹ W (BX.out 1 _ (by decide) (by rw[Qbc];exact HXq.out)) (BX.out 1 _ (by decide) (by rw[Qbc];exact HDq.out.inv Hne.out)));have HP2:=hid (fun (W:World) (hb:Below wr.heap.size wr W)=>(hE.out.below hb).setNum (j:=j) hrow2 (il[j]?.getD 0*d⁻¹));have HCW:=hid (fun (W:World) (hb:Below wr.heap.size wr W)=>(hE.out.below hb));have Hj:=hid hj;have Hr2:=hid hrow2;unfold qx at c1;clear hrow2 hE hj;generalize il[j]?.getD 0=x at *
           have KS:Hid (∀y,Below wr.heap.size wr y→y.cell? ⟨g,S.cols.length,none⟩=some (.slice (some ⟨ib,0,none⟩) n ic)∧y.cell? ⟨ib,j,none⟩=some (.string ⟨(jh x).toArray⟩)∧Below wr.heap.size wr y):=hid (fun y hb=>
            ⟨(hb.cell (p:=⟨g,S.cols.length,none⟩) hgl).trans hcr,(hb.cell (p:=⟨ib,j,none⟩) hbl).trans c1,hb⟩)
           go_upto_region 16 with fail
           refine wp_region_noPanic ?_;refine Mz (S:=fun y=>y.cell? ⟨g,S.cols.length,none⟩=some (.slice (some ⟨ib,0,none⟩) n ic)∧y.cell? ⟨ib,j,none⟩=some (.string ⟨(jh x).toArray⟩)∧Below wr.heap.size wr y) (by kernel_rfl) (KS.out _ (Below.refl _ _).drew) (fun hHeld=> ?_);refine kt (i:=0) (v:= ?_) rfl (by kernel_rfl) (by kernel_rfl) (by kernel_rfl) (by kernel_rfl) (fun _ _ _ h=>h) (Or.inl ⟨by rfl,?_⟩) hHeld ?_
           rotate_left
           ·(intro y hSy;(try dsimp only at hSy);go_split_ands;go_simp;(try with_reducible rfl))
           (try simp only[Act.put,Qag,Qaq,Qav])
           refine kt (i:=1) (v:= ?_) rfl (by kernel_rfl) (by kernel_rfl) (by kernel_rfl) (by kernel_rfl) (fun _ _ _ h=>h) (Or.inl ⟨by rfl,?_⟩) hHeld ?_
           rotate_left
           ·(intro y hSy;(try dsimp only at hSy);go_split_ands;go_simp;(try with_reducible rfl))
           (try simp only[Act.put,Qag,Qaq,Qav])
           refine kt (i:=2) (v:= ?_) rfl (by kernel_rfl) (by kernel_rfl) (by kernel_rfl) (by kernel_rfl) (fun _ _ _ h=>h) (Or.inl ⟨by rfl,?_⟩) hHeld ?_
           rotate_left
           ·(intro y hSy;(try dsimp only at hSy);go_split_ands;go_simp;(try with_reducible rfl))
           (try simp only[Act.put,Qag,Qaq,Qav])
           refine kt (i:=3) (v:= ?_) rfl (by kernel_rfl) (by kernel_rfl) (by kernel_rfl) (by kernel_rfl) (fun _ _ _ h=>h) (Or.inl ⟨by rfl,?_⟩) hHeld ?_
           rotate_left
           ·(intro y hSy;(try dsimp only at hSy);go_split_ands;go_simp;(try with_reducible rfl))
           (try simp only[Act.put,Qag,Qaq,Qav])
           refine kt (i:=4) (v:= ?_) rfl (by kernel_rfl) (by kernel_rfl) (by kernel_rfl) (by kernel_rfl) (fun _ _ _ h=>h) (Or.inl ⟨by rfl,?_⟩) hHeld ?_
           rotate_left
           ·(intro y hSy;(try dsimp only at hSy);go_split_ands;go_simp;(try with_reducible rfl))
           (try simp only[Act.put,Qag,Qaq,Qav])
           refine kt (i:=5) (v:= ?_) rfl (by kernel_rfl) (by kernel_rfl) (by kernel_rfl) (by kernel_rfl) (fun _ _ _ h=>h) (Or.inl ⟨by rfl,?_⟩) hHeld ?_
           rotate_left
           ·(intro y hSy;(try dsimp only at hSy);go_split_ands;go_simp;(try with_reducible rfl))
           (try simp only[Act.put,Qag,Qaq,Qav])
           refine kt (i:=6) (v:= ?_) rfl (by kernel_rfl) (by kernel_rfl) (by kernel_rfl) (by kernel_rfl) (fun _ _ _ h=>h) (Or.inl ⟨by rfl,?_⟩) hHeld ?_
           rotate_left
           ·(intro y hSy;(try dsimp only at hSy);go_split_ands;go_simp;(try with_reducible rfl))
           (try simp only[Act.put,Qag,Qaq,Qav])
           refine kt (i:=7) (v:= ?_) rfl (by kernel_rfl) (by kernel_rfl) (by kernel_rfl) (by kernel_rfl) (fun _ _ _ h=>h) (Or.inl ⟨by rfl,?_⟩) hHeld ?_
           rotate_left
           ·(intro y hSy;(try dsimp only at hSy);go_split_ands;go_simp;(try with_reducible rfl))
           (try simp only[Act.put,Qag,Qaq,Qav])
           refine kt (i:=8) (v:= ?_) rfl (by kernel_rfl) (by kernel_rfl) (by kernel_rfl) (by kernel_rfl) (fun _ _ _ h=>h) (Or.inl ⟨by rfl,?_⟩) hHeld ?_
           rotate_left
           ·(intro y hSy;(try dsimp only at hSy);go_split_ands;go_simp;(try with_reducible rfl))
           (try simp only[Act.put,Qag,Qaq,Qav])
           refine kt (i:=9) (v:= ?_) rfl (by kernel_rfl) (by kernel_rfl) (by kernel_rfl) (by kernel_rfl) (fun _ _ _ h=>h) (Or.inl ⟨by rfl,?_⟩) hHeld ?_
           rotate_left
           ·(intro y hSy;(try dsimp only at hSy);go_split_ands;go_simp;(try with_reducible rfl))
           (try simp only[Act.put,Qag,Qaq,Qav])
           refine kt (i:=10) (v:= ?_) rfl (by kernel_rfl) (by kernel_rfl) (by kernel_rfl) (by kernel_rfl) (fun _ _ _ h=>h) (Or.inl ⟨by rfl,?_⟩) hHeld ?_
           rotate_left
           ·(intro y hSy;(try dsimp only at hSy);go_split_ands;go_simp;(try with_reducible rfl))
           (try simp only[Act.put,Qag,Qaq,Qav])
           refine kt (i:=11) (v:= ?_) rfl (by kernel_rfl) (by kernel_rfl) (by kernel_rfl) (by kernel_rfl) (fun _ _ _ h=>h) (Or.inl ⟨by rfl,?_⟩) hHeld ?_
           rotate_left
           ·(intro y hSy;(try dsimp only at hSy);go_split_ands;go_simp;(try with_reducible rfl))
           (try simp only[Act.put,Qag,Qaq,Qav])
           refine kt (i:=12) (v:= ?_) rfl (by kernel_rfl) (by kernel_rfl) (by kernel_rfl) (by kernel_rfl) (fun _ _ _ h=>h) (Or.inl ⟨by rfl,?_⟩) hHeld ?_
           rotate_left
           ·(intro y hSy;(try dsimp only at hSy);go_split_ands;go_simp;(try with_reducible rfl))
           (try simp only[Act.put,Qag,Qaq,Qav])
           have hb0:=hHeld.2.2;refine YU (i:=13) (by kernel_rfl) rfl (fun K hK=> ?_)
           go_simp
           refine(ML.out _).mono ?_;rintro e w5 ⟨rfl,hB5⟩;have hb5:=hb0.trans (hB5.mono hb0.size);refine hK.out _ _ (KS.out _ hb5) (fun hHeld5=> ?_);clear hK K hB5 hHeld
           (try simp only[Act.put,Qag,Qaq,Qav])
           refine kt (i:=14) (v:= ?_) rfl (by kernel_rfl) (by kernel_rfl) (by kernel_rfl) (by kernel_rfl) (fun _ _ _ h=>h) (Or.inl ⟨by rfl,?_⟩) hHeld5 ?_
           rotate_left
           ·(intro y hSy;(try dsimp only at hSy);go_split_ands;go_simp;(try with_reducible rfl))
           (try simp only[Act.put,Qag,Qaq,Qav])
           obtain⟨s0,s1,-⟩:=hHeld5
           have ff:=(((HCW.out w5 hb5).mx.row _ (Qab Hr2.out)).free j)
           refine Vi (i:=15) (by kernel_rfl) rfl (by kernel_rfl) (by kernel_rfl) (fun K hK=> ?_)
           go_simp
           refine hK.out _ _ ?_;clear hK K;refine NoPanic.normal ?_
           (try simp only[Act.put,Qag,Qaq,Qav])
           have hE5:=HP2.out w5 hb5;rw[UB] at hE5;dsimp only at hE5;rw[Hs.out] at hE5;have HE5:=hid hE5;clear hE5 s0 s1 ff hb5 hb0 hcr c1 f1 KS
           go_wp2
           go_roundg gh2
           case rel=>exact⟨j+1,by go_num,by have:=Hj.out;omega,HE5⟩
           case measure=>omega
