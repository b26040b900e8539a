/- Contract: eliminate over the rational numbers. -/
import Derived.Test.YtneafcdfnhnpnaaGreatDoorZK13
set_option maxRecDepth 100000
set_option maxHeartbeats 4000000
namespace Go.Proofs.YtneafcdfnhnpnaaGreatDoor
open Go.RowKit Go.Lib
theorem YK (g c n:Nat) (R:List jI) (w:World) (hM:j6 w g R n) (hc:R.length≤c) (hc2:c≤1000000) (hn:n≤1000000) (hok:qT n R.length 0 ⟨R,[],[],false⟩):
  Calls Tryz.prog 147 #[.iface 172 (.agg #[]),.slice (some ⟨g,0,none⟩) R.length c] w (Q4 n g c R w):=by
 have HM:=hid hM;have HOK:=hid hok;clear hM hok;obtain⟨i0,hi0,hz0,hz1,hz2⟩:=info_parts yc;obtain⟨j0,hj0,hw0,hw1,hw2⟩:=info_parts KV;go_enter Tryz.func147,Tryz.ntmps147
 go_wp2_with fail
 go_loopg [6,17] R.length (fun gh f i wr=>∃(S:jP Rat) (fr:Nat) (cv pv:Value),f = .int .i64 fr∧i = .int .i64 (S.cols.length:Nat)∧S.cols.length+gh=R.length∧Hid (zp n g R w wr S fr cv pv))
 case atStart=>
  refine⟨⟨R,[],[],false⟩,0,jr,jr,rfl,rfl,by simp,hid ?_⟩;have hb:Below w.heap.size w ((w.alloc (.cells #[jr,jr,jr,.bool false] 169)).alloc (.cells #[jr,jr,jr,.bool false] 169)):=((Below.refl _ _).alloc (Nat.le_refl _) _).alloc (by simp) _;exact⟨HM.out.below hb,(ja.make w _ [jr,jr,jr,.bool false]).alloc _,by have:=ja.make (w.alloc (.cells #[jr,jr,jr,.bool false] 169)) 169 [jr,jr,jr,.bool false];simpa using this,World.ownsRow_nil _ _ _ _,kq.nil _ _,⟨[],World.ownsRow_nil _ _ _ _,rfl,kq.nil _ _,fun i e q h=>by simp at h⟩,rfl,rfl,List.Perm.refl _,by omega,rfl,HOK.out,jO.of_below hb⟩
 case round=>
  obtain⟨S,fr,cv,pv,rfl,rfl,hk,hE⟩:=hrel
  cases gk with
  | zero=>
   have hin:¬((S.cols.length:Int)<(R.length:Int)):=by omega
   have hgo:Hid (S=j3 jm n R.length 0 ⟨R,[],[],false⟩):=hid (by
    have h:=hE.out.go;rw[show R.length-S.cols.length=0 by omega] at h
    exact h)
   obtain⟨A1,k1,hcv,_,_⟩:=j8 hE.out.cown;obtain⟨A2,k2,hpv,hk2,_⟩:=hE.out.pown.form
   have hpl:S.piv.length≤c:=by rw[hE.out.same];omega
   obtain⟨x0,x1,x2,x3,y0,y1,y2,y3⟩:=hE.out.res.four;obtain⟨z0,z1,z2,z3,v0,v1,v2,v3⟩:=hE.out.out.four;have hF:=hid (fun (wf:World) e h1 h2 h3=>U9 (c:=c) (wf:=wf) (e:=e) HM.out hE.out (by omega) hgo.out h1 h2 h3);subst hcv hpv;clear hE hgo
   go_wp2
   exact bodyPost_ret (v:= .agg #[.slice (some ⟨g,0,none⟩) S.piv.length c,.slice A1 S.cols.length k1,.slice A2 S.piv.length k2,.bool S.odd]) (by simp[results,Tryz.results147,go_sem,z0,z1,z2,z3]) rfl (hF.out _ _ (by
     exact((((((Below.refl w.heap.size wr).setCell (by simp) _).setCell (by simp) _).setCell (by simp) _).setCell (by simp) _).setCell (by simp) _))
    (fun k hk hk'=>by simp only[World.setCell,Array.getElem?_modify];rw[if_neg (by omega),if_neg (by omega),if_neg (by omega),if_neg (by omega),if_neg (by omega)]) rfl)
  | succ gh=>
   have hin:((S.cols.length:Int)<(R.length:Int)):=by omega
   have hlt:S.cols.length<R.length:=by omega
   have Hk:=hid hk;clear hk
   have NP:Hid (Calls Tryz.prog 201 #[.iface 172 (.agg #[]),.slice (some ⟨g,0,none⟩) R.length c,.int .i64 (S.cols.length:Nat),.int .i64 fr] wr (Wt S.rows n S.cols.length fr wr)):=hid (by
    have h:=De g c n S.rows wr S.cols.length fr hE.out.mx (by intro e;have:=hE.out.len;rw[e] at this;simp at this;omega) (by rw[hE.out.len];exact hc) hc2 (by rw[hE.out.len];omega) hE.out.hfr hn;rw[hE.out.len] at h
    exact h)
   go_wp2_with fail
   refine NP.out.mono ?_;clear NP;rintro e w1 ⟨hB1,h⟩;have hE1:Hid (zp n g R w w1 S fr cv pv):=hid (hE.out.below hB1)
   rcases h with ⟨i,j,rfl,hi1,hi2,hj1,hj2,hnz,habove,hcl⟩ | ⟨i,j,rfl,hcl⟩
   ·clear hE
    have hE:=hE1;clear hE1 hB1;have hil:i<S.rows.length:=hi2
    obtain⟨ri,hri⟩:∃r,S.rows[i]? =some r:=⟨S.rows[i],List.getElem?_eq_getElem hil⟩
    obtain⟨rt,hrt⟩:∃r,S.rows[S.cols.length]? =some r:=⟨S.rows[S.cols.length]'(by rw[hE.out.len];exact hlt),List.getElem?_eq_getElem _⟩
    have hiR:i<R.length:=by rw[←hE.out.len];exact hil
    have Hsome:=hid (Wq (F:=jm) (R:=S.rows) (n-fr) fr hj1 (by have:=hE.out.hfr;omega) hi1 hil (by rw[Xv];simpa using hnz) (fun t h1 h2=>by rw[Xv,habove t h1 h2];rfl) (fun c h1 h2 t h3 h4=>by rw[Xv,hcl c h1 h2 t h3 h4];rfl));have Hnz:Hid (ri.2.2[j]?.getD 0≠0):=hid (by rw[←Wf hri];exact hnz);have HS:=hid hE.out.same;have Hgo:=hid hE.out.go;have Hokk:=hid hE.out.ok
    have Hst:Hid (zR i j S):=hid (by
     have h:=hE.out.ok;rw[show R.length-S.cols.length=(R.length-S.cols.length-1)+1 by omega] at h
     exact(h.some Hsome.out).1)
    have HR:=hid (Eq.refl S.rows);clear habove hcl hnz;have HE:=hid (hE.out.mid HM.out);clear hE;by_cases hit:i=S.cols.length
    case' pos=>
     have hne:((i:Int)==(S.cols.length:Int))=true:=by simp;omega
     have HQ:Hid (qp i S=S.rows):=hid (by unfold qp;rw[if_pos hit]);have HO:Hid ((if i=S.cols.length then S.odd else !S.odd)=S.odd):=hid (if_pos hit);have Hrow:Hid (S.rows[S.cols.length]? =some ri):=hid (hit ▸ hri);clear hri hrt hit hi2 hil;rw[←HQ.out] at Hrow HE;rw[←HO.out] at HE;clear HR HQ HO;generalize hQe:qp i S=Q at *;have HQe:=hid hQe;clear hQe;obtain⟨ib,ic,il⟩:=ri;generalize hOe:(if i=S.cols.length then S.odd else !S.odd)=odd at *;have HOe:=hid hOe;clear hOe
     obtain⟨w3,rfl⟩:∃w3,w3=w1:=⟨_,rfl⟩
     go_upto_region 11 with fail
    case' neg=>
     have hne:((i:Int)==(S.cols.length:Int))=false:=by simp;omega
     have HQ:Hid (qp i S=qu S.rows i S.cols.length):=hid (by unfold qp;rw[if_neg hit]);have HO:Hid ((if i=S.cols.length then S.odd else !S.odd) = !S.odd):=hid (if_neg hit);have hci:=HE.out.mx.cellRow hri;have hct:=HE.out.mx.cellRow hrt;have hfi:=HE.out.mx.own.free i;have hft:=HE.out.mx.own.free S.cols.length;have hgl:=HE.out.mx.own.lt;have HE2:=hid (HE.out.swap hri hrt);have Hrow:=hid (GO hri hrt);rw[←HQ.out] at Hrow HE2;clear HR HQ hri hrt HE hi2 hil;obtain⟨ib,ic,il⟩:=ri;obtain⟨tb,tc,tl⟩:=rt;unfold kK at hci hct HE2;dsimp only at hci hct HE2;generalize hQe:qp i S=Q at *;have HQe:=hid hQe;clear hQe
     go_upto_region 9 with fail
     go_region
     obtain⟨w2,hw2⟩:∃w2,w2=((w1.setCell ⟨g,i,none⟩ (.slice (some ⟨tb,0,none⟩) n tc)).setCell ⟨g,S.cols.length,none⟩ (.slice (some ⟨ib,0,none⟩) n ic)).drew:=⟨_,rfl⟩
     rw[←hw2] at HE2;rw[←hw2];clear hw2 hci hct hfi hft hgl hit;obtain⟨x0,x1,x2,x3,y0,y1,y2,y3⟩:=HE2.out.res.four;have HE3:=hid (HE2.out.setOdd (!S.odd));rw[←HO.out] at HE3;have hln:=HE2.out.res.lt;clear HE2
     go_upto_region 11 with fail
     obtain⟨w3,hw3⟩:∃w3,w3=w2.setCell ⟨w.heap.size+1,3,none⟩ (.bool (!S.odd)):=⟨_,rfl⟩
     rw[HO.out,←hw3,←HO.out] at HE3;rw[←hw3];clear hw3 x0 x1 x2 x3 y0 y1 y2 y3 hln w2 HO;generalize hOe:(if i=S.cols.length then S.odd else !S.odd)=odd at *;have HOe:=hid hOe;clear hOe;have HE:=HE3;clear HE3
    all_goals
     have Hparts:=hid (Hst.out.parts HQe.out Hrow.out rfl);have hcr:=HE.out.mx.cellRow Hrow.out;obtain⟨⟨es,hro⟩,hrl,hrc1,hrc2⟩:=HE.out.mx.row _ (List.mem_of_getElem? Hrow.out);dsimp only at hro hrl hrc1 hrc2 Hnz;obtain⟨e,B1,m1,k1,B2,m2,k2,hee0,hee,hrt,q0,q1,q2,qf0,qf1,qf2⟩:=hro.at_ (j:=j) (by omega);clear qf0 qf1 qf2 hee0;obtain⟨e0,ea,eb⟩:=e
     have hea:ea = .slice B1 m1 k1∧eb = .slice B2 m2 k2:=by simpa using hee
     obtain⟨rfl,rfl⟩:=hea;clear hee;unfold kX at hrt;dsimp only at hrt q0;unfold kK at hcr;dsimp only at hcr;have hbl:=hro.own.lt;have hgl:=HE.out.mx.own.lt;have Hil:=hid hrl;generalize hxe:il[j]?.getD 0=x at *;have Hxe:=hid hxe;clear hxe hrl;have hal:Below w3.heap.size w3 (w3.alloc (.cells #[.bool e0,.slice B1 m1 k1,.slice B2 m2 k2] 122)):=(Below.refl _ _).alloc (Nat.le_refl _) _
     have HP:Hid (jo (w3.alloc (.cells #[.bool e0,.slice B1 m1 k1,.slice B2 m2 k2] 122)) w3.heap.size [(e0,.slice B1 m1 k1,.slice B2 m2 k2)] [x]):=hid ⟨ja.make w3 _ [.bool e0,.slice B1 m1 k1,.slice B2 m2 k2],Nat.le_refl _,fun e' he'=>by simp at he';subst he';exact⟨jq _ _ _,jq _ _ _⟩,fun i e' q h1 h2=>by
      cases i with
      | zero=>simp at h1 h2;subst h1 h2;exact hrt.below hal
      | succ i=>simp at h1⟩
     have HE4:=hid (HE.out.below hal);have Hro4:=hid (hro.below hal);have Hrt4:=hid (hrt.below hal);have hpx:w.heap.size+2≤w3.heap.size:=HE.out.res.lt;have hcr4:=(hal.cell (p:=⟨g,S.cols.length,none⟩) hgl).trans hcr
     have hb1:j*3+2<9223372036854775808:=by omega
     go_upto_region 12 with fail
     obtain⟨w4,hw4⟩:∃w4,w4=w3.alloc (.cells #[.bool e0,.slice B1 m1 k1,.slice B2 m2 k2] 122):=⟨_,rfl⟩
     rw[←hw4] at HP HE4 Hro4 Hrt4 hcr4 hal;rw[←hw4];have hpxl:=HP.out.own.lt;clear HE hcr hro hrt q0 q1 q2 hw4;have hgl4:g<w4.heap.size:=Nat.lt_of_lt_of_le hgl hal.size;have hbl4:ib<w4.heap.size:=Nat.lt_of_lt_of_le hbl hal.size;clear hal;generalize w3.heap.size=px at *;clear hgl hbl w3;have hpx3:=HP.out.own.three;obtain⟨p0,p1,p2,_,_,_⟩:=hpx3;have DV:=hid (SJ (.agg #[.bool e0,.slice B1 m1 k1,.slice B2 m2 k2]) x w4.drew ib j (n-j) (ic-j) es il (Hro4.out.below (Below.refl _ _).drew) (by have:=Hil.out;omega) (by omega) (by omega) (Hrt4.out.below (Below.refl _ _).drew) Hnz.out (Hparts.out.1 _ (by rw[←Hxe.out];rw[List.getElem?_eq_getElem (by have:=Hil.out;omega)];exact List.getElem_mem _)) Hparts.out.1);have Hpr:=hid Hparts.out.2;clear Hparts Hro4 Hnz
     go_wp2_with fail
     have hjn:j≤n:=by omega
     have hic:¬ic=j:=by omega
     refine wp_region_still_tail 8 (by kernel_rfl) (by kernel_rfl) ?_;simp only[List.take_succ_cons,List.take_zero,List.drop_succ_cons,List.drop_zero];change wpStill _ _ w4.drew (fun a'=>wpList _ _ _ _ a' w4.drew) _ _
     repeat still_step
     refine wpStill_nil ?_
     go_wp2_with fail
     refine DV.out.mono ?_;clear DV;rintro e w5 ⟨rfl,hO5,hB5⟩;rw[Sz x j (n-j) il (by have:=Hil.out;omega)] at hO5;have HE5:=hid (HE4.out.drew.setRow Hrow.out hO5 (by rw[J6];exact Hil.out) hB5);have HP5:=hid ((HP.out.below (Below.refl _ _).drew).rowKeep (by omega) HE4.out.drew Hrow.out hB5);clear hO5 hB5 hcr4 hbl4 hgl4 hrc1 hrc2 p0 p1 p2 hpxl Hrt4
     go_wp2_with fail
     have Hrow2:=hid (xt Hrow.out (kR jm x j il));have HL2:Hid ((kR jm x j il).length=n):=hid (by rw[J6];exact Hil.out);have HSt:=hid (YI (F:=jm) HQe.out Hrow.out Hxe.out HOe.out HE4.out.len);clear HE4 HP Hrow Hxe HQe HOe Hil;generalize kR jm x j il=P at *;generalize setRow Q S.cols.length P=Q2 at *
     go_loopg [70] R.length (fun gh2 i wx=>∃k:Nat,i = .int .i64 k∧k+gh2=R.length∧Hid (ky n g R w wx S.cols S.piv (kz jm S.cols.length j P Q2 k) odd cv pv)∧Hid (jo wx px [(e0,.slice B1 m1 k1,.slice B2 m2 k2)] [x]))
     case atStart=>exact⟨0,rfl,by omega,hid (by rw[Yr];exact HE5.out),HP5⟩
     case round=>
      have HQl:Hid (Q2.length=R.length):=hid HE5.out.len;clear HE5 HP5;obtain⟨k,rfl,hkk,hE,hP⟩:=hrel
      cases gk with
      | zero=>
       have hkR:k=R.length:=by omega
       have hkn:¬((k:Int)<(R.length:Int)):=by omega
       have hE5:Hid (ky n g R w wr S.cols S.piv (kz jm S.cols.length j P Q2 R.length) odd cv pv):=hid (by rw[←hkR];exact hE.out);clear hE hkk hkR;have hsz:=hE5.out.res.lt
       have hl1:S.piv.length<1000000:=by have:=HS.out;omega
       obtain⟨x0,x1,x2,x3,y0,y1,y2,y3⟩:=hE5.out.res.four
       go_upto_region 20 with (at_builtin;(refine Kv _ rfl _ _ 50 rfl (w.heap.size+2) 3 i0 (.int .i64 0) 1 8 Tryz.underlying50 hi0 hz0 hz1 hz2 rfl (by decide) _ _ _ rfl (hE5.out.cown.alloc _) ⟨wr.heap.size,0,none⟩ 1 1 [.int .i64 j] rfl rfl (cell_one_new _ _ _) (fun x hx=>by simp at hx;subst hx;rfl) (by unfold maxLen;omega) (by omega) (by simp;omega) (by decide) kr (qL hE5.out.cin hE5.out.cown ((Below.refl _ _).alloc (Nat.le_refl _) _)) (Dc _) FT ?_;intro v5 w5 hown5 hgrow5 hall5;obtain⟨A5,c5,rfl,_,_⟩:=j8 hown5;have hA:=hE5.out.addCol hown5 hall5 hgrow5;have hXX:=hA.1.four;obtain⟨qa0,qa1,qa2,qa3,r0,r1,r2,r3⟩:=hXX;have HE6:=hid hA.2.1;have HP6:=hid (hA.2.2 px _ _ hpx hP.out);clear hA hown5 hgrow5 hall5))
       obtain⟨w6,hw6⟩:∃w6,w6=w5.setCell ⟨w.heap.size+1,1,none⟩ (.slice A5 (S.cols.length+1) c5):=⟨_,rfl⟩
       rw[←hw6] at HE6 HP6;rw[←hw6];clear hw6 x0 x1 x2 x3 y0 y1 y2 y3 qa0 qa1 qa2 qa3 r0 r1 r2 r3 hE5 hsz hP;have hsz:=HE6.out.res.lt;obtain⟨x0,x1,x2,x3,y0,y1,y2,y3⟩:=HE6.out.res.four;obtain⟨p0,p1,p2,pf0,pf1,pf2⟩:=HP6.out.own.three;obtain⟨es6,ho6,hl6,ha6,hr6⟩:=HE6.out.pown;have hx6:=HP6.out.num 0 _ _ rfl rfl;have Hl6:=hid hl6;have Ho6:=hid ho6;have Ha6:=hid ha6;have Hr6:=hid hr6;have Hx6:=hid hx6;clear hl6 ho6 ha6 hr6 hx6
       go_wp2_with (at_builtin;(refine Kv _ rfl _ _ 167 rfl (w.heap.size+2) 122 j0 yg 3 56 Tryz.underlying167 hj0 hw0 hw1 hw2 rfl (by decide) _ _ _ rfl (Ho6.out.alloc _) ⟨w6.heap.size,0,none⟩ 1 1 [.bool e0,.slice B1 m1 k1,.slice B2 m2 k2] rfl rfl (Yl _ _ _ _ _) (K8 _ _ _ _ _ _ _) (by unfold maxLen;omega) (by omega) (by simp;omega) (by decide) kr (qL Ha6.out Ho6.out ((Below.refl _ _).alloc (Nat.le_refl _) _)) (Zc _ _ _ _ _ _ _) ZY ?_;intro v7 w7 hown7 hgrow7 hall7;obtain⟨A7,c7,rfl,_,_⟩:=j8 hown7;have hA:=HE6.out.addPiv Ho6.out Hl6.out Ha6.out Hr6.out Hx6.out hown7 hall7 hgrow7;have hXX:=hA.1.four;obtain⟨qa0,qa1,qa2,qa3,r0,r1,r2,r3⟩:=hXX;have HE8:=hid hA.2;clear hA hown7 hgrow7 hall7))
       go_roundg gh
       case rel=>
        have hcl:(kW jm i j S).cols=S.cols++[j]:=by rw[HSt.out]
        exact⟨kW jm i j S,j+1,_,_,by go_num,by rw[hcl,List.length_append];go_num,by rw[hcl,List.length_append];have:=Hk.out;simp;omega,hid (HE8.out.inv HSt.out HS.out hj2 hlt Hsome.out Hgo.out Hokk.out)⟩
       case measure=>omega
      | succ gh2=>
       have hkl:k<R.length:=by omega
       have hkl':((k:Int)<(R.length:Int)):=by omega
       obtain⟨rk,hrk⟩:∃r,Q2[k]? =some r:=⟨Q2[k]'(by rw[HQl.out];exact hkl),List.getElem?_eq_getElem _⟩
       have hrk':=(QR (F:=jm) (R:=Q2) (top:=S.cols.length) (o:=j) (P:=P) k).trans hrk;have hck:=hE.out.mx.cellRow hrk';have hgl:=hE.out.mx.own.lt;have Hkk:=hid hkk;clear hkk;by_cases hkt:k=S.cols.length
       ·have hkn:((k:Int)==(S.cols.length:Int))=true:=by simp;omega
        have hE':Hid (ky n g R w wr S.cols S.piv (kz jm S.cols.length j P Q2 (k+1)) odd cv pv):=hid (by rw[hkt,Yo];have:=hE.out;rw[hkt] at this;exact this);clear hE hkt hrk hrk';obtain⟨kb,kc,kl⟩:=rk;unfold kK at hck;dsimp only at hck
        go_wp2
        go_roundg gh2
        case rel=>exact⟨k+1,by go_num,by have:=Hkk.out;omega,hE',hP⟩
        case measure=>omega
       ·have hkn:((k:Int)==(S.cols.length:Int))=false:=by simp;omega
        obtain⟨⟨esk,hko⟩,hkl2,hkc1,hkc2⟩:=hE.out.mx.row _ (List.mem_of_getElem? hrk');have htop:=(Yq (F:=jm) (R:=Q2) (top:=S.cols.length) (o:=j) (P:=P) k).trans Hrow2.out;have hct:=hE.out.mx.cellRow htop;obtain⟨⟨est,hto⟩,htl2,htc1,htc2⟩:=hE.out.mx.row _ (List.mem_of_getElem? htop);have hbb:ib≠rk.1:=Wa hE.out.mx.apart htop hrk' (fun e=>hkt e.symm);have Hsu:=hid (Yp (F:=jm) (top:=S.cols.length) (o:=j) (P:=P) hkt hrk);have Hclr:=hid (Hpr.out k rk hrk hkt);obtain⟨kb,kc,kl⟩:=rk;unfold kK at hck hct;dsimp only at hck hct hko hkl2 hkc1 hkc2 hto htl2 htc1 htc2 hbb;have CL:=hid (RB wr.drew kb j (n-j) (kc-j) ib (ic-j) esk est kl P (hko.below (Below.refl _ _).drew) (hto.below (Below.refl _ _).drew) hbb (by omega) (by omega) (by omega) (by omega) (by omega) (by omega) (by omega) Hclr.out);have hkbl:=hko.own.lt;have hibl:=hto.own.lt;have Hlen:=hid hkl2;have Hrk:=hid hrk';have Hkt:=hid hkt;clear hko hto hbb hrk hrk' htop hkl2 htl2 hkt
        go_wp2_with fail
        have hjn:j≤n:=by omega
        have hic:¬ic=j:=by omega
        have hkc:¬kc=j:=by omega
        refine wp_region_still_tail 10 (by kernel_rfl) (by kernel_rfl) ?_;simp only[List.take_succ_cons,List.take_zero,List.drop_succ_cons,List.drop_zero];change wpStill _ _ wr.drew (fun a'=>wpList _ _ _ _ a' wr.drew) _ _
        repeat still_step
        refine wpStill_nil ?_
        go_wp2_with fail
        refine CL.out.mono ?_;rintro e w5 ⟨rfl,hO5,hB5⟩;rw[RF j (n-j) kl P (by have:=Hlen.out;omega)] at hO5
        have hE':Hid (ky n g R w w5 S.cols S.piv (kz jm S.cols.length j P Q2 (k+1)) odd cv pv):=hid (by
         rw[←Hsu.out]
         exact hE.out.setRow Hrk.out hO5 (by rw[Yn];exact Hlen.out) (jh.dr' hB5))
        have hP':=hid (hP.out.rowKeep (by omega) hE.out Hrk.out (jh.dr' hB5));clear hO5 hB5 CL hck hct hE hP
        go_wp2
        go_roundg gh2
        case rel=>exact⟨k+1,by go_num,by have:=Hkk.out;omega,hE',hP'⟩
        case measure=>omega
   ·have hgo:Hid (S=j3 jm n R.length 0 ⟨R,[],[],false⟩):=hid (by
     rw[←hE.out.go]
     exact(Va (by omega) (Wp _ _ (fun c h1 h2 t h3 h4=>by rw[Xv,hcl c h1 (by have:=hE.out.hfr;omega) t h3 h4];rfl))).symm)
    clear hE hB1 hcl;have hE:=hE1;clear hE1;obtain⟨A1,k1,hcv,_,_⟩:=j8 hE.out.cown;obtain⟨A2,k2,hpv,hk2,_⟩:=hE.out.pown.form
    have hpl:S.piv.length≤c:=by rw[hE.out.same];omega
    obtain⟨x0,x1,x2,x3,y0,y1,y2,y3⟩:=hE.out.res.four;obtain⟨z0,z1,z2,z3,v0,v1,v2,v3⟩:=hE.out.out.four;have hF:=hid (fun (wf:World) e h1 h2 h3=>U9 (c:=c) (wf:=wf) (e:=e) HM.out hE.out (by omega) hgo.out h1 h2 h3);subst hcv hpv;clear hE hgo
    go_wp2
    exact bodyPost_ret (v:= .agg #[.slice (some ⟨g,0,none⟩) S.piv.length c,.slice A1 S.cols.length k1,.slice A2 S.piv.length k2,.bool S.odd]) (by simp[results,Tryz.results147,go_sem,z0,z1,z2,z3]) rfl (hF.out _ _ (by
      exact((((((Below.refl w.heap.size w1).setCell (by simp) _).setCell (by simp) _).setCell (by simp) _).setCell (by simp) _).setCell (by simp) _))
     (fun k hk hk'=>by simp only[World.setCell,Array.getElem?_modify];rw[if_neg (by omega),if_neg (by omega),if_neg (by omega),if_neg (by omega),if_neg (by omega)]) rfl)
theorem Gj (w:World) (b n c:Nat) (es:List El) (L:List Rat) (hO:jo w b es L) (hn:n=L.length) (hc1:n≤c) (hc2:c≤9223372036854775807):
  Calls Tryz.prog 204 #[.slice (some ⟨b,0,none⟩) n c] w fun e w'=>e = .returned (.tuple #[])∧(∃es',jo w' b es' L.reverse)∧jh b w w':=by
 have hb:b<w.heap.size:=hO.own.lt
 have hst:jo w b es (qJ L 0):=by rw[Gh];exact hO
 have HN:=hid hn;clear hO hn;go_enter Tryz.func204,Tryz.ntmps204
 go_wp2_with fail
 go_loopg [2,3] n (fun gh i j wr=>∃k:Nat,i = .int .i64 k∧j = .int .i64 ((n:Int)-1-k)∧k+gh=n∧2*k≤n+1∧Hid (∃es',jo wr b es' (qJ L k))∧jh b w wr)
 case atStart=>exact⟨0,rfl,by go_num,by omega,by omega,hid ⟨es,hst⟩,jh.refl _ _⟩
 case round=>
  clear hst;obtain⟨k,rfl,rfl,hk,hk2,hO,hB⟩:=hrel;by_cases hlt:2*k+1<n
  ·have hti:(k:Int)<(n:Int)-1-k:=by omega
   have hjj:(n:Int)-1-k=((n-1-k:Nat):Int):=by omega
   have hl:=HN.out;obtain⟨es1,hR⟩:=hO.out;have e1:=XC L k k (Nat.le_refl _) (by omega);have e2:=XC L k (n-1-k) (by omega) (by omega);obtain⟨u,A1,n1,c1,A2,n2,c2,zz0,hu,hru,x0,x1,x2,f0,f1,f2⟩:=hR.at_ (j:=k) (by rw[JG];omega);obtain⟨v,B1,m1,d1,B2,m2,d2,zz1,hv,hrv,y0,y1,y2,g0,g1,g2⟩:=hR.at_ (j:=n-1-k) (by rw[JG];omega);clear zz0 zz1;obtain⟨u0,ua,ub⟩:=u
   have hua:ua = .slice A1 n1 c1∧ub = .slice A2 n2 c2:=by simpa using hu
   obtain⟨rfl,rfl⟩:=hua;obtain⟨v0,va,vb⟩:=v
   have hva:va = .slice B1 m1 d1∧vb = .slice B2 m2 d2:=by simpa using hv
   obtain⟨rfl,rfl⟩:=hva;clear hu hv;rw[e1] at hru;rw[e2] at hrv;dsimp only at x0 y0
   have hne:¬k=n-1-k:=by omega
   have hln:=hR.own.lt;have Hs:=hid (Gg L k (L[k]?.getD 0) (L[n-1-k]?.getD 0) (by omega) (by rw[List.getElem?_eq_getElem (by omega)];rfl) (by rw[←hl,List.getElem?_eq_getElem (by omega)];rfl));rw[←hl] at Hs
   have hjn:n-1-k<n:=by omega
   have HP:Hid (∃es',jo ((((((wr.setCell ⟨b,k*3,none⟩ (.bool v0)).setCell ⟨b,k*3+1,none⟩ (.slice B1 m1 d1)).setCell ⟨b,k*3+2,none⟩ (.slice B2 m2 d2)).setCell ⟨b,(n-1-k)*3,none⟩ (.bool u0)).setCell ⟨b,(n-1-k)*3+1,none⟩ (.slice A1 n1 c1)).setCell ⟨b,(n-1-k)*3+2,none⟩ (.slice A2 n2 c2)) b es' (qJ L (k+1))):=hid (by
    have h1:=hR.put (j:=k) (e:=(v0,.slice B1 m1 d1,.slice B2 m2 d2)) (q:=L[n-1-k]?.getD 0) (by rw[JG];omega) hrv;have hru2:=hru.stay hR.own hR.noInt (jh.set3 wr b (k*3) (.bool v0) (.slice B1 m1 d1) (.slice B2 m2 d2));have h2:=h1.put (j:=n-1-k) (e:=(u0,.slice A1 n1 c1,.slice A2 n2 c2)) (q:=L[k]?.getD 0) (by rw[List.length_set,JG];omega) hru2;rw[Hs.out] at h2
    exact⟨_,h2⟩)
   clear e1 e2 hl hru hrv;rw[hjj] at hti ⊢;generalize hj:n-1-k=j at *;have Hj:=hid hj;have Hjj:=hid hjj
   have hbt:=(jh.set3 (((wr.setCell ⟨b,k*3,none⟩ (.bool v0)).setCell ⟨b,k*3+1,none⟩ (.slice B1 m1 d1)).setCell ⟨b,k*3+2,none⟩ (.slice B2 m2 d2)) b (j*3) (.bool u0) (.slice A1 n1 c1) (.slice A2 n2 c2))
   have HBt:=hid ((hB.trans (jh.set3 wr b (k*3) (.bool v0) (.slice B1 m1 d1) (.slice B2 m2 d2))).trans hbt);clear hj hjj hR hO hbt
   go_wp2_with fail
   go_region
   have HP2:=hid (HP.out);clear hB Hs x0 x1 x2 y0 y1 y2 f0 f1 f2 g0 g1 g2
   go_wp2
   go_roundg (gk-1)
   case rel=>exact⟨k+1,by go_num,by have:=Hj.out;go_num,by have:=Hj.out;omega,by omega,hid (by obtain⟨es',h⟩:=HP2.out;exact⟨es',h.below ((Below.refl _ _).drew)⟩),HBt.out.below ((Below.refl _ _).drew)⟩
   case measure=>omega
  ·have hti:¬((k:Int)<(n:Int)-1-k):=by omega
   have HO:=hid (show ∃es',jo wr b es' L.reverse by rw[←Gf L k (by have:=HN.out;omega)];exact hO.out);clear hO
   go_wp2
   go_end0
   exact⟨rfl,HO.out,hB⟩
theorem BZ (s:Bool) (A1 A2:Option Addr) (n1 c1 n2 c2:Nat) (w:World) (b c n:Nat) (hO:ja w b 122 [.bool s,.slice A1 n1 c1,.slice A2 n2 c2]) (hn:n≤1000000):
  Calls Tryz.prog 236 #[.slice (some ⟨b,0,none⟩) 1 c,.int .i64 n] w fun e w'=>e = .returned (.slice (some ⟨w.heap.size,0,none⟩) n n)∧ja w' w.heap.size 122 (jz (List.replicate n (s,.slice A1 n1 c1,.slice A2 n2 c2)))∧Below w.heap.size w w':=by
 obtain⟨E,hE⟩:∃E:El,E=(s,.slice A1 n1 c1,.slice A2 n2 c2):=⟨_,rfl⟩
 have HE:=hid hE
 have hOE:ja w b 122 (Jt E):=by rw[hE];exact hO
 have HC:Hid (∀v,v∈Jt E→v.oneCell'=true):=hid (by rw[hE];exact K8 _ _ _ _ _ _ _)
 have HCr:Hid (∀k v,v∈jz (List.replicate k E)→v.oneCell'=true):=hid (fun k=>by
  induction k with
  | zero=>intro v hv;cases hv
  | succ k ih=>
   intro v hv;rw[List.replicate_succ] at hv
   have:v∈Jt E∨v∈jz (List.replicate k E):=by
    simp only[jz,List.mem_cons] at hv;simp only[Jt,List.mem_cons,List.not_mem_nil,or_false];rcases hv with h | h | h | h
    ·exact .inl (.inl h)
    ·exact .inl (.inr (.inl h))
    ·exact .inl (.inr (.inr h))
    ·exact .inr h
   rcases this with h | h
   ·exact HC.out v h
   ·exact ih v h)
 rw[←hE];clear hE;have hmk:=Y2 w E n hn;have hO2:=hOE.alloc (.cells (kE E n 0).toArray 122);have HG:Hid (ja (w.alloc (.cells (kE E n 0).toArray 122)) w.heap.size 122 (kE E n 0)):=hid (ja.make w _ (kE E n 0))
 have Hcs:Hid (∀j v,(jz (List.replicate (min 1 n) E))[j]? =some v→(w.alloc (.cells (kE E n 0).toArray 122)).cell? ((⟨b,0,none⟩:Addr).add j)=some v):=hid (by
  intro j v hv
  have e:((⟨b,0,none⟩:Addr).add j)=⟨b,j,none⟩:=by
   unfold Addr.add;split
   ·subst j;rfl
   ·simp
  rw[e,hO2.cell j];rcases Nat.eq_zero_or_pos n with h0 | h0
  ·subst h0;cases hv
  ·rw[show min 1 n=1 by omega] at hv;exact hv)
 clear hO hO2 hOE;go_enter Tryz.func236,Tryz.ntmps236
 go_upto_region 7 with (go_at_call 251;refine(V0 n _ hn).mono ?_;rintro e w' ⟨rfl,rfl⟩)
 clear hmk
 go_wp2_with ((refine FG (o:=⟨some 33,_,_,_,_,_⟩) rfl (.tmp 31) (.tmp 32) 167 167 rfl 122 3 Tryz.underlying167 (by kernel_rfl) w.heap.size 0 n n ⟨b,0,none⟩ 1 c rfl rfl (kE E n 0) 122 HG.out (min 1 n) rfl (jz (List.replicate (min 1 n) E)) (by rw[qB];simp) Hcs.out (by rw[Vd E (by omega),qB];simp;omega) (HCr.out _) w.heap.size w ((Below.refl _ _).alloc (Nat.le_refl _) _) (Nat.le_refl _) ?_;intro w1 hw1 hB1;rw[show (0:Nat)=0*3 from rfl,Ve E (by omega)] at hw1;clear HG Hcs))
 go_loopg [8] (n-min 1 n) (fun gh k wr=>∃m:Nat,k = .int .i64 m∧m+gh=n∧Hid (1≤m∨n=0)∧Hid (ja wr w.heap.size 122 (kE E n m))∧Below w.heap.size w wr)
 case atStart=>exact⟨min 1 n,by simp,by omega,hid (by omega),hid (by have:=hw1.out;simp at this;exact this),hB1⟩
 case round=>
  clear hw1 hB1;obtain⟨m,rfl,hm,h1,hO,hB⟩:=hrel;by_cases hlt:m<n
  ·have hml:m≤n:=by omega
   have hmn:¬n=m:=by omega
   have hm0:¬m=0:=by have:=h1.out;omega
   have hl:=hid (fun j v (hv:(jz (List.replicate (min m (n-m)) E))[j]? =some v)=>show wr.cell? ((⟨w.heap.size,0,none⟩:Addr).add j)=some v from by
    have e:((⟨w.heap.size,0,none⟩:Addr).add j)=⟨w.heap.size,j,none⟩:=by
     unfold Addr.add;split
     ·subst j;rfl
     ·simp
    rw[e,hO.out.cell j];unfold kE;have hjl:j<(jz (List.replicate (min m (n-m)) E)).length:=(List.getElem?_eq_some_iff.1 hv).1;rw[qB,List.length_replicate] at hjl
    have e2:List.replicate m E=List.replicate (min m (n-m)) E++List.replicate (m-min m (n-m)) E:=by rw[List.replicate_append_replicate];congr 1;omega
    rw[e2,List.append_assoc,y7,List.getElem?_append_left (by rw[qB,List.length_replicate];exact hjl)]
    exact hv)
   have hcp:=Gp (P:=Tryz.prog) wr.drew 167 167 3 122 3 w.heap.size (m*3) (n-m) (n-m) ⟨w.heap.size,0,none⟩ m n (kE E n m).toArray 122 (min m (n-m)) (jz (List.replicate (min m (n-m)) E)) Tryz.underlying167 (by kernel_rfl) hO.out rfl (by rw[qB];simp) hl.out (by rw[qB];simp[Vd E hml];omega) (HCr.out _);have hsp:=Ve E (n:=n) (k:=m) (m:=min m (n-m)) (by omega);unfold splice at hsp;rw[List.append_assoc,List.toList_toArray,hsp] at hcp;simp only[goInt] at hcp;have hO1:Hid (ja (wr.drew.setRow w.heap.size (kE E n (m+min m (n-m))).toArray) w.heap.size 122 (kE E n (m+min m (n-m)))):=hid (setRow_heap wr.drew w.heap.size _ _ 122 (0,0) hO.out);have hB1:Below w.heap.size w (wr.drew.setRow w.heap.size (kE E n (m+min m (n-m))).toArray):=below_setRow hB.drew (Nat.le_refl _) _;have hmm:IntKind.i64.wrap ((m:Int)+((min m (n-m):Nat):Int))=(m:Int)+((min m (n-m):Nat):Int):=IntWalk.i64_in _ (by omega)
   have hle:m+min m (n-m)≤n:=by omega
   have hgt:m<m+min m (n-m):=by have:=h1.out;omega
   generalize hmin:min m (n-m)=d at *;have Hd:=hid hmin;clear hl hsp hmin hO hB
   go_wp2_with fail
   go_region
   go_wp2
   go_roundg (gk-d)
   case rel=>exact⟨m+d,by go_num,by omega,hid (by omega),hO1,hB1⟩
   case measure=>omega
  ·have hmn:m=n:=by omega
   have hin:¬((m:Int)<(n:Int)):=by omega
   have HO:=hid (show ja wr w.heap.size 122 (jz (List.replicate n E)) by have:=hO.out;rw[hmn] at this;simpa [kE] using this);clear hO hmn
   go_wp2
   go_ret;exact⟨rfl,HO.out,hB⟩
def Th (q:Rat) (n:Nat) (w:World) (e:Ending) (w':World):Prop:=
 ∃g es,e = .returned (.slice (some ⟨g,0,none⟩) n n)∧w.heap.size≤g∧jo w' g es (List.replicate n q)∧Below w.heap.size w w'
theorem Vh (v:Value) (q:Rat) (w:World) (n:Nat) (hn:n≤1000000) (hv:Rt w v q):
  Calls Tryz.prog 206 #[.int .i64 n,v] w (Th q n w):=by
 obtain⟨s,A1,n1,c1,A2,n2,c2,rfl⟩:=hv.shape;have h1:=ja.make w 122 [.bool s,.slice A1 n1 c1,.slice A2 n2 c2];have hO:=ja.make (w.alloc (.cells #[.bool s,.slice A1 n1 c1,.slice A2 n2 c2] 122)) 122 [.bool s,.slice A1 n1 c1,.slice A2 n2 c2];rw[World.size_alloc] at hO;obtain⟨x0,x1,x2,zz0,zz1,zz2⟩:=h1.three;clear zz0 zz1 zz2;have RP:=hid (BZ s A1 A2 n1 c1 n2 c2 _ (w.heap.size+1) 1 n hO hn);have HV:=hid hv;clear hO h1 hv;go_enter Tryz.func206,Tryz.ntmps206
 go_wp2_with fail
 refine RP.out.mono ?_;rintro e w1 ⟨rfl,hO1,hB1⟩;have hB:Below w.heap.size w w1:=(((Below.refl _ w).alloc (Nat.le_refl _) (.cells #[.bool s,.slice A1 n1 c1,.slice A2 n2 c2] 122)).alloc (by simp) (.cells #[.bool s,.slice A1 n1 c1,.slice A2 n2 c2] 122)).trans (hB1.mono (by simp;omega))
 have hR:jo w1 (w.heap.size+1+1) (List.replicate n (s,.slice A1 n1 c1,.slice A2 n2 c2)) (List.replicate n q):=by
  refine⟨by simpa using hO1,by simp,fun e he=> ?_,fun i e q' h1 h2=> ?_⟩
  ·have:=List.eq_of_mem_replicate he;subst this;exact⟨jq _ _ _,jq _ _ _⟩
  rw[List.getElem?_replicate] at h1 h2;split at h1
  ·simp at h1 h2
   obtain⟨_,rfl⟩:=h2;subst h1;exact HV.out.below hB
  ·cases h1
 have HR:=hid hR;have HB:=hid hB;clear hO1 hB1 hR hB RP HV
 go_wp2
 go_ret;exact⟨_,_,by first | rfl | simp,by omega,HR.out,HB.out⟩
