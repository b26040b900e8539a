/- Contract: eliminate over the rational numbers. -/
import Derived.Test.YteagkgagdelklaaGreatDoorZT15
import Derived.Test.YteagkgagdelklaaGreatDoorZT19
set_option maxRecDepth 100000
set_option maxHeartbeats 4000000
namespace Go.Proofs.YteagkgagdelklaaGreatDoor
open Go.RowKit Go.Lib
theorem Qs (g c n:Nat) (R:List js) (w:World) (hM:j5 w g R n) (hc:R.length≤c) (hc2:c≤1000000) (hn:n≤1000000) (hok:qU n R.length 0 ⟨R,[],[],false⟩):
  Calls Tryz.prog 38 #[.iface 77 (.agg #[]),.slice (some ⟨g,0,none⟩) R.length c] w (XM n g c R w):=by
 have HM:=hid hM;have HOK:=hid hok;clear hM hok;obtain⟨i0,hi0,hz0,hz1,hz2⟩:=info_parts zd;obtain⟨j0,hj0,hw0,hw1,hw2⟩:=info_parts Qv;go_enter Tryz.func38,Tryz.ntmps38
 go_wp2_with fail
 go_loopg [6,17] R.length (fun gh f i wr=>∃(S:jw Rat) (fr:Nat) (cv pv:Value),f = .int .i64 fr∧i = .int .i64 (S.cols.length:Nat)∧S.cols.length+gh=R.length∧Hid (zU n g R w wr S fr cv pv))
 case atStart=>
  refine⟨⟨R,[],[],false⟩,0,jn,jn,rfl,rfl,by simp,hid ?_⟩;have hb:Below w.heap.size w ((w.alloc (.cells #[jn,jn,jn,.bool false] 74)).alloc (.cells #[jn,jn,jn,.bool false] 74)):=((Below.refl _ _).alloc (Nat.le_refl _) _).alloc (by simp) _;exact⟨HM.out.below hb,(ja.make w _ [jn,jn,jn,.bool false]).alloc _,by have:=ja.make (w.alloc (.cells #[jn,jn,jn,.bool false] 74)) 74 [jn,jn,jn,.bool false];simpa using this,World.ownsRow_nil _ _ _ _,kw.nil _ _,⟨[],World.ownsRow_nil _ _ _ _,rfl,kw.nil _ _,fun i e q h=>by simp at h⟩,rfl,rfl,List.Perm.refl _,by omega,rfl,HOK.out,jO.of_below hb⟩
 case round=>
  obtain⟨S,fr,cv,pv,rfl,rfl,hk,hE⟩:=hrel
  cases gk with
  | zero=>
   have hin:¬((S.cols.length:Int)<(R.length:Int)):=by omega
   have hgo:Hid (S=jy jc n R.length 0 ⟨R,[],[],false⟩):=hid (by
    have h:=hE.out.go;rw[show R.length-S.cols.length=0 by omega] at h
    exact h)
   obtain⟨A1,k1,hcv,_,_⟩:=jX hE.out.cown;obtain⟨A2,k2,hpv,hk2,_⟩:=hE.out.pown.form
   have hpl:S.piv.length≤c:=by rw[hE.out.same];omega
   obtain⟨x0,x1,x2,x3,y0,y1,y2,y3⟩:=hE.out.res.four;obtain⟨z0,z1,z2,z3,v0,v1,v2,v3⟩:=hE.out.out.four;have hF:=hid (fun (wf:World) e h1 h2 h3=>V6 (c:=c) (wf:=wf) (e:=e) HM.out hE.out (by omega) hgo.out h1 h2 h3);subst hcv hpv;clear hE hgo
   go_wp2
   exact bodyPost_ret (v:= .agg #[.slice (some ⟨g,0,none⟩) S.piv.length c,.slice A1 S.cols.length k1,.slice A2 S.piv.length k2,.bool S.odd]) (by simp[results,Tryz.results38,go_sem,z0,z1,z2,z3]) rfl (hF.out _ _ (by
     exact((((((Below.refl w.heap.size wr).setCell (by simp) _).setCell (by simp) _).setCell (by simp) _).setCell (by simp) _).setCell (by simp) _))
    (fun k hk hk'=>by simp only[World.setCell,QbH];rw[if_neg (by omega),if_neg (by omega),if_neg (by omega),if_neg (by omega),if_neg (by omega)]) rfl)
  | succ gh=>
   have hin:((S.cols.length:Int)<(R.length:Int)):=by omega
   have hlt:S.cols.length<R.length:=by omega
   have Hk:=hid hk;clear hk
   have NP:Hid (Calls Tryz.prog 83 #[.iface 77 (.agg #[]),.slice (some ⟨g,0,none⟩) R.length c,.int .i64 (S.cols.length:Nat),.int .i64 fr] wr (G0 S.rows n S.cols.length fr wr)):=hid (by
    have h:=Ct g c n S.rows wr S.cols.length fr hE.out.mx (by intro e;have:=hE.out.len;rw[e] at this;simp at this;omega) (by rw[hE.out.len];exact hc) hc2 (by rw[hE.out.len];omega) hE.out.hfr hn;rw[hE.out.len] at h
    exact h)
   go_wp2_with fail
   refine NP.out.mono ?_;clear NP;rintro e w1 ⟨hB1,h⟩;have hE1:Hid (zU n g R w w1 S fr cv pv):=hid (hE.out.below hB1)
   rcases h with ⟨i,j,rfl,hi1,hi2,hj1,hj2,hnz,habove,hcl⟩ | ⟨i,j,rfl,hcl⟩
   ·clear hE
    have hE:=hE1;clear hE1 hB1;have hil:i<S.rows.length:=hi2
    obtain⟨ri,hri⟩:∃r,S.rows[i]? =some r:=⟨S.rows[i],Qaa hil⟩
    obtain⟨rt,hrt⟩:∃r,S.rows[S.cols.length]? =some r:=⟨S.rows[S.cols.length]'(by rw[hE.out.len];exact hlt),Qaa _⟩
    have hiR:i<R.length:=by rw[←hE.out.len];exact hil
    have Hsome:=hid (Uf (F:=jc) (R:=S.rows) (n-fr) fr hj1 (by have:=hE.out.hfr;omega) hi1 hil (by rw[zL];simpa using hnz) (fun t h1 h2=>by rw[zL,habove t h1 h2];rfl) (fun c h1 h2 t h3 h4=>by rw[zL,hcl c h1 h2 t h3 h4];rfl));have Hnz:Hid (ri.2.2[j]?.getD 0≠0):=hid (by rw[←QE hri];exact hnz);have HS:=hid hE.out.same;have Hgo:=hid hE.out.go;have Hokk:=hid hE.out.ok
    have Hst:Hid (zY i j S):=hid (by
     have h:=hE.out.ok;rw[show R.length-S.cols.length=(R.length-S.cols.length-1)+1 by omega] at h
     exact(h.some Hsome.out).1)
    have HR:=hid (Eq.refl S.rows);clear habove hcl hnz;have HE:=hid (hE.out.mid HM.out);clear hE;by_cases hit:i=S.cols.length
    case' pos=>
     have hne:((i:Int)==(S.cols.length:Int))=true:=by simp;omega
     have HQ:Hid (j8 i S=S.rows):=hid (by unfold j8;rw[if_pos hit]);have HO:Hid ((if i=S.cols.length then S.odd else !S.odd)=S.odd):=hid (if_pos hit);have Hrow:Hid (S.rows[S.cols.length]? =some ri):=hid (hit ▸ hri);clear hri hrt hit hi2 hil;rw[←HQ.out] at Hrow HE;rw[←HO.out] at HE;clear HR HQ HO;generalize hQe:j8 i S=Q at *;have HQe:=hid hQe;clear hQe;obtain⟨ib,ic,il⟩:=ri;generalize hOe:(if i=S.cols.length then S.odd else !S.odd)=odd at *;have HOe:=hid hOe;clear hOe
     obtain⟨w3,rfl⟩:∃w3,w3=w1:=⟨_,rfl⟩
     go_upto_region 11 with fail
    case' neg=>
     have hne:((i:Int)==(S.cols.length:Int))=false:=by simp;omega
     have HQ:Hid (j8 i S=kU S.rows i S.cols.length):=hid (by unfold j8;rw[if_neg hit]);have HO:Hid ((if i=S.cols.length then S.odd else !S.odd) = !S.odd):=hid (if_neg hit);have hci:=HE.out.mx.cellRow hri;have hct:=HE.out.mx.cellRow hrt;have hfi:=HE.out.mx.own.free i;have hft:=HE.out.mx.own.free S.cols.length;have hgl:=HE.out.mx.own.lt;have HE2:=hid (HE.out.swap hri hrt);have Hrow:=hid (Q0 hri hrt);rw[←HQ.out] at Hrow HE2;clear HR HQ hri hrt HE hi2 hil;obtain⟨ib,ic,il⟩:=ri;obtain⟨tb,tc,tl⟩:=rt;unfold jV at hci hct HE2;dsimp only at hci hct HE2;generalize hQe:j8 i S=Q at *;have HQe:=hid hQe;clear hQe
     go_upto_region 9 with fail
     go_region
     obtain⟨w2,hw2⟩:∃w2,w2=((w1.setCell ⟨g,i,none⟩ (.slice (some ⟨tb,0,none⟩) n tc)).setCell ⟨g,S.cols.length,none⟩ (.slice (some ⟨ib,0,none⟩) n ic)).drew:=⟨_,rfl⟩
     rw[←hw2] at HE2;rw[←hw2];clear hw2 hci hct hfi hft hgl hit;obtain⟨x0,x1,x2,x3,y0,y1,y2,y3⟩:=HE2.out.res.four;have HE3:=hid (HE2.out.setOdd (!S.odd));rw[←HO.out] at HE3;have hln:=HE2.out.res.lt;clear HE2
     go_upto_region 11 with fail
     obtain⟨w3,hw3⟩:∃w3,w3=w2.setCell ⟨w.heap.size+1,3,none⟩ (.bool (!S.odd)):=⟨_,rfl⟩
     rw[HO.out,←hw3,←HO.out] at HE3;rw[←hw3];clear hw3 x0 x1 x2 x3 y0 y1 y2 y3 hln w2 HO;generalize hOe:(if i=S.cols.length then S.odd else !S.odd)=odd at *;have HOe:=hid hOe;clear hOe;have HE:=HE3;clear HE3
    all_goals
     have Hparts:=hid (Hst.out.parts HQe.out Hrow.out rfl);have hcr:=HE.out.mx.cellRow Hrow.out;obtain⟨⟨es,hro⟩,hrl,hrc1,hrc2⟩:=HE.out.mx.row _ (Qab Hrow.out);dsimp only at hro hrl hrc1 hrc2 Hnz;obtain⟨e,B1,m1,k1,B2,m2,k2,hee0,hee,hrt,q0,q1,q2,qf0,qf1,qf2⟩:=hro.at_ (j:=j) (by omega);clear qf0 qf1 qf2 hee0;obtain⟨e0,ea,eb⟩:=e
     have hea:ea = .slice B1 m1 k1∧eb = .slice B2 m2 k2:=by simpa using hee
     obtain⟨rfl,rfl⟩:=hea;clear hee;unfold qk at hrt;dsimp only at hrt q0;unfold jV at hcr;dsimp only at hcr;have hbl:=hro.own.lt;have hgl:=HE.out.mx.own.lt;have Hil:=hid hrl;generalize hxe:il[j]?.getD 0=x at *;have Hxe:=hid hxe;clear hxe hrl;have hal:Below w3.heap.size w3 (w3.alloc (.cells #[.bool e0,.slice B1 m1 k1,.slice B2 m2 k2] 69)):=(Below.refl _ _).alloc (Nat.le_refl _) _
     have HP:Hid (jq (w3.alloc (.cells #[.bool e0,.slice B1 m1 k1,.slice B2 m2 k2] 69)) w3.heap.size [(e0,.slice B1 m1 k1,.slice B2 m2 k2)] [x]):=hid ⟨ja.make w3 _ [.bool e0,.slice B1 m1 k1,.slice B2 m2 k2],Nat.le_refl _,fun e' he'=>by simp at he';subst he';exact⟨jr _ _ _,jr _ _ _⟩,fun i e' q h1 h2=>by
      cases i with
      | zero=>simp at h1 h2;subst h1 h2;exact hrt.below hal
      | succ i=>simp at h1⟩
     have HE4:=hid (HE.out.below hal);have Hro4:=hid (hro.below hal);have Hrt4:=hid (hrt.below hal);have hpx:w.heap.size+2≤w3.heap.size:=HE.out.res.lt;have hcr4:=(hal.cell (p:=⟨g,S.cols.length,none⟩) hgl).trans hcr
     have hb1:j*3+2<9223372036854775808:=by omega
     go_upto_region 12 with fail
     obtain⟨w4,hw4⟩:∃w4,w4=w3.alloc (.cells #[.bool e0,.slice B1 m1 k1,.slice B2 m2 k2] 69):=⟨_,rfl⟩
     rw[←hw4] at HP HE4 Hro4 Hrt4 hcr4 hal;rw[←hw4];have hpxl:=HP.out.own.lt;clear HE hcr hro hrt q0 q1 q2 hw4;have hgl4:g<w4.heap.size:=Qac hgl hal.size;have hbl4:ib<w4.heap.size:=Qac hbl hal.size;clear hal;generalize w3.heap.size=px at *;clear hgl hbl w3;have hpx3:=HP.out.own.three;obtain⟨p0,p1,p2,_,_,_⟩:=hpx3;have DV:=hid (NX (.agg #[.bool e0,.slice B1 m1 k1,.slice B2 m2 k2]) x w4.drew ib j (n-j) (ic-j) es il (Hro4.out.below (Below.refl _ _).drew) (by have:=Hil.out;omega) (by omega) (by omega) (Hrt4.out.below (Below.refl _ _).drew) Hnz.out (Hparts.out.1 _ (by rw[←Hxe.out];rw[Qaa (by have:=Hil.out;omega)];exact Qay _)) Hparts.out.1);have Hpr:=hid Hparts.out.2;clear Hparts Hro4 Hnz
     go_wp2_with fail
     have hjn:j≤n:=by omega
     have hic:¬ic=j:=by omega
     refine wp_region_still_tail 8 (by kernel_rfl) (by kernel_rfl) ?_;simp only[QbK,QbL,Qcb,Qa0];change wpStill _ _ w4.drew (fun a'=>wpList _ _ _ _ a' w4.drew) _ _
     repeat still_step
     refine wpStill_nil ?_
     go_wp2_with fail
     refine DV.out.mono ?_;clear DV;rintro e w5 ⟨rfl,hO5,hB5⟩;rw[NN x j (n-j) il (by have:=Hil.out;omega)] at hO5;have HE5:=hid (HE4.out.drew.setRow Hrow.out hO5 (by rw[Jz];exact Hil.out) hB5);have HP5:=hid ((HP.out.below (Below.refl _ _).drew).rowKeep (by omega) HE4.out.drew Hrow.out hB5);clear hO5 hB5 hcr4 hbl4 hgl4 hrc1 hrc2 p0 p1 p2 hpxl Hrt4
     go_wp2_with fail
     have Hrow2:=hid (qG Hrow.out (j3 jc x j il));have HL2:Hid ((j3 jc x j il).length=n):=hid (by rw[Jz];exact Hil.out);have HSt:=hid (XL (F:=jc) HQe.out Hrow.out Hxe.out HOe.out HE4.out.len);clear HE4 HP Hrow Hxe HQe HOe Hil;generalize j3 jc x j il=P at *;generalize setRow Q S.cols.length P=Q2 at *
     go_loopg [70] R.length (fun gh2 i wx=>∃k:Nat,i = .int .i64 k∧k+gh2=R.length∧Hid (kH n g R w wx S.cols S.piv (jY jc S.cols.length j P Q2 k) odd cv pv)∧Hid (jq wx px [(e0,.slice B1 m1 k1,.slice B2 m2 k2)] [x]))
     case atStart=>exact⟨0,rfl,by omega,hid (by rw[Xz];exact HE5.out),HP5⟩
     case round=>
      have HQl:Hid (Q2.length=R.length):=hid HE5.out.len;clear HE5 HP5;obtain⟨k,rfl,hkk,hE,hP⟩:=hrel
      cases gk with
      | zero=>
       have hkR:k=R.length:=by omega
       have hkn:¬((k:Int)<(R.length:Int)):=by omega
       have hE5:Hid (kH n g R w wr S.cols S.piv (jY jc S.cols.length j P Q2 R.length) odd cv pv):=hid (by rw[←hkR];exact hE.out);clear hE hkk hkR;have hsz:=hE5.out.res.lt
       have hl1:S.piv.length<1000000:=by have:=HS.out;omega
       obtain⟨x0,x1,x2,x3,y0,y1,y2,y3⟩:=hE5.out.res.four
       go_upto_region 20 with (at_builtin;(refine Qa _ rfl _ _ 41 rfl (w.heap.size+2) 3 i0 (.int .i64 0) 1 8 Tryz.underlying41 hi0 hz0 hz1 hz2 rfl (by decide) _ _ _ rfl (hE5.out.cown.alloc _) ⟨wr.heap.size,0,none⟩ 1 1 [.int .i64 j] rfl rfl (cell_one_new _ _ _) (fun x hx=>by simp at hx;subst hx;rfl) (by unfold maxLen;omega) (by omega) (by simp;omega) (by decide) kx (xe hE5.out.cin hE5.out.cown ((Below.refl _ _).alloc (Nat.le_refl _) _)) (Cr _) Ig ?_;intro v5 w5 hown5 hgrow5 hall5;obtain⟨A5,c5,rfl,_,_⟩:=jX hown5;have hA:=hE5.out.addCol hown5 hall5 hgrow5;have hXX:=hA.1.four;obtain⟨qa0,qa1,qa2,qa3,r0,r1,r2,r3⟩:=hXX;have HE6:=hid hA.2.1;have HP6:=hid (hA.2.2 px _ _ hpx hP.out);clear hA hown5 hgrow5 hall5))
       obtain⟨w6,hw6⟩:∃w6,w6=w5.setCell ⟨w.heap.size+1,1,none⟩ (.slice A5 (S.cols.length+1) c5):=⟨_,rfl⟩
       rw[←hw6] at HE6 HP6;rw[←hw6];clear hw6 x0 x1 x2 x3 y0 y1 y2 y3 qa0 qa1 qa2 qa3 r0 r1 r2 r3 hE5 hsz hP;have hsz:=HE6.out.res.lt;obtain⟨x0,x1,x2,x3,y0,y1,y2,y3⟩:=HE6.out.res.four;obtain⟨p0,p1,p2,pf0,pf1,pf2⟩:=HP6.out.own.three;obtain⟨es6,ho6,hl6,ha6,hr6⟩:=HE6.out.pown;have hx6:=HP6.out.num 0 _ _ rfl rfl;have Hl6:=hid hl6;have Ho6:=hid ho6;have Ha6:=hid ha6;have Hr6:=hid hr6;have Hx6:=hid hx6;clear hl6 ho6 ha6 hr6 hx6
       go_wp2_with (at_builtin;(refine Qa _ rfl _ _ 72 rfl (w.heap.size+2) 69 j0 yN 3 56 Tryz.underlying72 hj0 hw0 hw1 hw2 rfl (by decide) _ _ _ rfl (Ho6.out.alloc _) ⟨w6.heap.size,0,none⟩ 1 1 [.bool e0,.slice B1 m1 k1,.slice B2 m2 k2] rfl rfl (Y2 _ _ _ _ _) (QH _ _ _ _ _ _ _) (by unfold maxLen;omega) (by omega) (by simp;omega) (by decide) kx (xe Ha6.out Ho6.out ((Below.refl _ _).alloc (Nat.le_refl _) _)) (ZV _ _ _ _ _ _ _) UX ?_;intro v7 w7 hown7 hgrow7 hall7;obtain⟨A7,c7,rfl,_,_⟩:=jX hown7;have hA:=HE6.out.addPiv Ho6.out Hl6.out Ha6.out Hr6.out Hx6.out hown7 hall7 hgrow7;have hXX:=hA.1.four;obtain⟨qa0,qa1,qa2,qa3,r0,r1,r2,r3⟩:=hXX;have HE8:=hid hA.2;clear hA hown7 hgrow7 hall7))
       go_roundg gh
       case rel=>
        have hcl:(kg jc i j S).cols=S.cols++[j]:=by rw[HSt.out]
        exact⟨kg jc i j S,j+1,_,_,by go_num,by rw[hcl,Qaf];go_num,by rw[hcl,Qaf];have:=Hk.out;simp;omega,hid (HE8.out.inv HSt.out HS.out hj2 hlt Hsome.out Hgo.out Hokk.out)⟩
       case measure=>omega
      | succ gh2=>
       have hkl:k<R.length:=by omega
       have hkl':((k:Int)<(R.length:Int)):=by omega
       obtain⟨rk,hrk⟩:∃r,Q2[k]? =some r:=⟨Q2[k]'(by rw[HQl.out];exact hkl),Qaa _⟩
       have hrk':=(Ql (F:=jc) (R:=Q2) (top:=S.cols.length) (o:=j) (P:=P) k).trans hrk;have hck:=hE.out.mx.cellRow hrk';have hgl:=hE.out.mx.own.lt;have Hkk:=hid hkk;clear hkk;by_cases hkt:k=S.cols.length
       ·have hkn:((k:Int)==(S.cols.length:Int))=true:=by simp;omega
        have hE':Hid (kH n g R w wr S.cols S.piv (jY jc S.cols.length j P Q2 (k+1)) odd cv pv):=hid (by rw[hkt,Xw];have:=hE.out;rw[hkt] at this;exact this);clear hE hkt hrk hrk';obtain⟨kb,kc,kl⟩:=rk;unfold jV at hck;dsimp only at hck
        go_wp2
        go_roundg gh2
        case rel=>exact⟨k+1,by go_num,by have:=Hkk.out;omega,hE',hP⟩
        case measure=>omega
       ·have hkn:((k:Int)==(S.cols.length:Int))=false:=by simp;omega
        obtain⟨⟨esk,hko⟩,hkl2,hkc1,hkc2⟩:=hE.out.mx.row _ (Qab hrk');have htop:=(Xy (F:=jc) (R:=Q2) (top:=S.cols.length) (o:=j) (P:=P) k).trans Hrow2.out;have hct:=hE.out.mx.cellRow htop;obtain⟨⟨est,hto⟩,htl2,htc1,htc2⟩:=hE.out.mx.row _ (Qab htop);have hbb:ib≠rk.1:=ZY hE.out.mx.apart htop hrk' (fun e=>hkt e.symm);have Hsu:=hid (Xx (F:=jc) (top:=S.cols.length) (o:=j) (P:=P) hkt hrk);have Hclr:=hid (Hpr.out k rk hrk hkt);obtain⟨kb,kc,kl⟩:=rk;unfold jV at hck hct;dsimp only at hck hct hko hkl2 hkc1 hkc2 hto htl2 htc1 htc2 hbb;have CL:=hid (TW wr.drew kb j (n-j) (kc-j) ib (ic-j) esk est kl P (hko.below (Below.refl _ _).drew) (hto.below (Below.refl _ _).drew) hbb (by omega) (by omega) (by omega) (by omega) (by omega) (by omega) (by omega) Hclr.out);have hkbl:=hko.own.lt;have hibl:=hto.own.lt;have Hlen:=hid hkl2;have Hrk:=hid hrk';have Hkt:=hid hkt;clear hko hto hbb hrk hrk' htop hkl2 htl2 hkt
        go_wp2_with fail
        have hjn:j≤n:=by omega
        have hic:¬ic=j:=by omega
        have hkc:¬kc=j:=by omega
        refine wp_region_still_tail 10 (by kernel_rfl) (by kernel_rfl) ?_;simp only[QbK,QbL,Qcb,Qa0];change wpStill _ _ wr.drew (fun a'=>wpList _ _ _ _ a' wr.drew) _ _
        repeat still_step
        refine wpStill_nil ?_
        go_wp2_with fail
        refine CL.out.mono ?_;rintro e w5 ⟨rfl,hO5,hB5⟩;rw[TY j (n-j) kl P (by have:=Hlen.out;omega)] at hO5
        have hE':Hid (kH n g R w w5 S.cols S.piv (jY jc S.cols.length j P Q2 (k+1)) odd cv pv):=hid (by
         rw[←Hsu.out]
         exact hE.out.setRow Hrk.out hO5 (by rw[Xv];exact Hlen.out) (jk.dr' hB5))
        have hP':=hid (hP.out.rowKeep (by omega) hE.out Hrk.out (jk.dr' hB5));clear hO5 hB5 CL hck hct hE hP
        go_wp2
        go_roundg gh2
        case rel=>exact⟨k+1,by go_num,by have:=Hkk.out;omega,hE',hP'⟩
        case measure=>omega
   ·have hgo:Hid (S=jy jc n R.length 0 ⟨R,[],[],false⟩):=hid (by
     rw[←hE.out.go]
     exact(V8 (by omega) (GW _ _ (fun c h1 h2 t h3 h4=>by rw[zL,hcl c h1 (by have:=hE.out.hfr;omega) t h3 h4];rfl))).symm)
    clear hE hB1 hcl;have hE:=hE1;clear hE1;obtain⟨A1,k1,hcv,_,_⟩:=jX hE.out.cown;obtain⟨A2,k2,hpv,hk2,_⟩:=hE.out.pown.form
    have hpl:S.piv.length≤c:=by rw[hE.out.same];omega
    obtain⟨x0,x1,x2,x3,y0,y1,y2,y3⟩:=hE.out.res.four;obtain⟨z0,z1,z2,z3,v0,v1,v2,v3⟩:=hE.out.out.four;have hF:=hid (fun (wf:World) e h1 h2 h3=>V6 (c:=c) (wf:=wf) (e:=e) HM.out hE.out (by omega) hgo.out h1 h2 h3);subst hcv hpv;clear hE hgo
    go_wp2
    exact bodyPost_ret (v:= .agg #[.slice (some ⟨g,0,none⟩) S.piv.length c,.slice A1 S.cols.length k1,.slice A2 S.piv.length k2,.bool S.odd]) (by simp[results,Tryz.results38,go_sem,z0,z1,z2,z3]) rfl (hF.out _ _ (by
      exact((((((Below.refl w.heap.size w1).setCell (by simp) _).setCell (by simp) _).setCell (by simp) _).setCell (by simp) _).setCell (by simp) _))
     (fun k hk hk'=>by simp only[World.setCell,QbH];rw[if_neg (by omega),if_neg (by omega),if_neg (by omega),if_neg (by omega),if_neg (by omega)]) rfl)
