/- Contract: the null space over the rational numbers. -/
import Derived.Test.YtneafcdfnhnpnaaGreatDoorZK14
set_option maxRecDepth 100000
set_option maxHeartbeats 4000000
namespace Go.Proofs.YtneafcdfnhnpnaaGreatDoor
open Go.RowKit Go.Lib
attribute [local go_sem ↓] Go.wp_at_zero Go.wp_at_succ
def yU (w:World) (base:Nat) (v:Value) (B:List (Nat×List Rat)) (n:Nat):Prop:=
 w.ownsRow base 167 1 v B.length (B.map fun r=>Value.slice (some ⟨r.1,0,none⟩) n n)∧kq w kr v ∧ ∀r∈B,base≤r.1∧(∃es,jo w r.1 es r.2)∧r.2.length=n
def Dj (n g:Nat) (R:List jI) (w:World) (e:Ending) (w':World):Prop:=
 ∃v B,e = .returned v∧B.map (·.2)=nsBasis jm 0 1 n (j3 jm n R.length 0 ⟨ke List.reverse R R.length,[],[],false⟩) n∧yU w' w.heap.size v B n∧jO (g::R.map (·.1)) w w'
def xy (S:jP Rat):Prop:=∀r∈S.rows,∀x∈r.2.2,kA x
theorem Vv:(Tryz.prog.info? 167).map (fun i=>(i.zero,i.size,i.bytes))=some (some (.slice none 0 0),1,24):=by kernel_rfl
theorem Xo (w:World):Calls Tryz.prog 316 #[.agg #[],.int .i64 0] w (qC 0 w):=by simpa using Zz 0 w (by omega) (by omega)
theorem Wh (w:World):Calls Tryz.prog 316 #[.agg #[],.int .i64 1] w (qC 1 w):=by simpa using Zz 1 w (by omega) (by omega)
theorem xM.zero {y:Rat} (h:kA y):xM 0 y:=⟨⟨.small (by decide),.small (by decide)⟩,h,by simpa using h.1⟩
theorem ZZ:∀u∈(Value.slice none 0 0).cells.toList,kr u:=by
 intro u hu;simp[Value.cells] at hu;subst hu;exact(jq _ _ _).noU
theorem Zd (A:Option Addr) (n c:Nat):∀u∈[Value.slice A n c],kr u:=by
 intro u hu;simp at hu;subst hu;exact(jq _ _ _).noU
theorem yU.below {w w':World} {base n:Nat} {v:Value} {B:List (Nat×List Rat)} (h:yU w base v B n) (hb:Below w.heap.size w w'):yU w' base v B n:=
 ⟨kC h.1 hb,qL h.2.1 h.1 hb,fun r hr=>⟨(h.2.2 r hr).1,by obtain⟨es,he⟩:=(h.2.2 r hr).2.1;exact⟨es,he.below hb⟩,(h.2.2 r hr).2.2⟩⟩
theorem yU.snoc {w w':World} {base n:Nat} {v v':Value} {B:List (Nat×List Rat)} {gl:Nat} {L:List Rat} (h:yU w base v B n) (hg:w.grownBy w' v.ownBlock) (hown:w'.ownsRow base 167 1 v' (B.length+1) (B.map (fun r=>Value.slice (some ⟨r.1,0,none⟩) n n)++[.slice (some ⟨gl,0,none⟩) n n]))
  (hall:kq w' kr v') (hO:∃es,jo w gl es L) (hgl:base≤gl) (hl:L.length=n):yU w' base v' (B++[(gl,L)]) n:=by
 have hK:=kp.grown hg h.1 h.2.1
 have hk:∀(k:Nat) (es:List El) (q:List Rat),jo w k es q→jo w' k es q:=fun k es q hq=>hq.keeps hK (hg.block k hq.own.lt (fun e=>Zj hq.own h.1 (by decide) e.symm))
 refine⟨by rw[List.map_append,List.length_append];exact hown,hall,fun r hr=> ?_⟩;rcases List.mem_append.1 hr with hr | hr
 ·have:=h.2.2 r hr
  obtain⟨es,he⟩:=this.2.1;exact⟨this.1,⟨es,hk _ _ _ he⟩,this.2.2⟩
 ·obtain rfl:=List.mem_singleton.1 hr
  obtain⟨es,he⟩:=hO;exact⟨hgl,⟨es,hk _ _ _ he⟩,hl⟩
theorem Dl (g c n:Nat) (R:List jI) (w:World) (hM:j6 w g R n) (hc:R.length≤c) (hc2:c≤1000000) (hn:n≤1000000) (h0:R=[]→n=0)
  (hok:qT n R.length 0 ⟨ke List.reverse R R.length,[],[],false⟩) (hfin:xy (j3 jm n R.length 0 ⟨ke List.reverse R R.length,[],[],false⟩)):
  Calls Tryz.prog 148 #[.iface 172 (.agg #[]),.slice (some ⟨g,0,none⟩) R.length c] w (Dj n g R w):=by
 have HM:=hid hM;have H0:=hid h0;have HOK:=hid hok;have HFIN:=hid hfin;clear hM h0 hok hfin;go_enter Tryz.func148,Tryz.ntmps148
 go_wp2_with fail
 go_loopg [16] R.length (fun gh i wr=>∃k:Nat,i = .int .i64 k∧k+gh=R.length∧Hid (j6 wr g (ke List.reverse R k) n)∧Hid (jO (g::R.map (·.1)) w wr))
 case atStart=>exact⟨0,rfl,by omega,hid (by rw[Xj];exact HM.out),hid (jO.refl _ _)⟩
 case round=>
  obtain⟨k,rfl,hk,hMk,hB⟩:=hrel
  cases gk with
  | succ gh=>
   have hlt:k<R.length:=by omega
   have hlt':(k:Int)<(R.length:Int):=by omega
   obtain⟨r,hr⟩:∃r,R[k]? =some r:=⟨R[k],List.getElem?_eq_getElem hlt⟩
   have hr':=(Xi (f:=List.reverse) (R:=R) k).trans hr;have hck:=hMk.out.cellRow hr';have hgl:=hMk.out.own.lt;obtain⟨⟨es,hro⟩,hrl,hrc1,hrc2⟩:=hMk.out.row _ (List.mem_of_getElem? hr');have RV:=hid (Gj wr r.1 n r.2.1 es r.2.2 hro hrl.symm hrc1 hrc2);have Hk:=hid hk;have Hrb:Hid (r.1∈g::R.map (·.1)):=hid (List.mem_cons_of_mem _ (List.mem_map_of_mem (List.mem_of_getElem? hr)));have Hst:=hid (Y8 (f:=List.reverse) hr);have Hr:=hid hr';have Hrl:=hid hrl;clear hk hr hr' hro hrl;obtain⟨kb,kc,kl⟩:=r;unfold kK at hck;dsimp only at hck hrc1 hrc2
   go_wp2_with fail
   refine RV.out.mono ?_;clear RV;rintro e w1 ⟨rfl,hO1,hB1⟩
   have HM1:Hid (j6 w1 g (ke List.reverse R (k+1)) n):=hid (by
    rw[←Hst.out]
    exact hMk.out.setRow Hr.out hO1 (by rw[List.length_reverse];exact Hrl.out) hB1)
   have HB1:Hid (jO (g::R.map (·.1)) w w1):=hid (hB.out.but hB1 Hrb.out);clear hMk hB hO1 hB1 hck
   go_wp2
   go_roundg gh
   case rel=>exact⟨k+1,by go_num,by have:=Hk.out;omega,HM1,HB1⟩
   case measure=>omega
  | zero=>
   have hkR:k=R.length:=by omega
   have hin:¬((k:Int)<(R.length:Int)):=by omega
   rw[hkR] at hMk;clear hk hkR;generalize hQe:ke List.reverse R R.length=Q at *;have HQl:Hid (Q.length=R.length):=hid (by rw[←hQe];exact KZ _);have HQb:Hid (Q.map (·.1)=R.map (·.1)):=hid (by rw[←hQe];exact VU _);have HQ:=hid hQe;clear hQe
   have WD:Hid (Calls Tryz.prog 159 #[.slice (some ⟨g,0,none⟩) R.length c] wr fun e w'=>e = .returned (.int .i64 (n:Int))∧wr=w'):=hid (by
    have h:=Qr g c n Q wr hMk.out;rw[HQl.out] at h;by_cases hR:R=[]
    ·have h1:=H0.out hR
     have:Q=[]:=List.length_eq_zero_iff.1 (by rw[HQl.out,hR];rfl);rw[if_pos this] at h;rw[h1];exact h
    ·have:Q≠[]:=fun e=>hR (List.length_eq_zero_iff.1 (by rw[←HQl.out,e];rfl))
     rw[if_neg this] at h
     exact h)
   have EL:Hid (Calls Tryz.prog 147 #[.iface 172 (.agg #[]),.slice (some ⟨g,0,none⟩) R.length c] wr (Q4 n g c Q wr)):=hid (by
    have h:=YK g c n Q wr hMk.out (by rw[HQl.out];exact hc) hc2 hn (by rw[HQl.out];exact HOK.out);rw[HQl.out] at h
    exact h)
   go_wp2_with (first | (go_at_call 159;refine WD.out.mono ?_;rintro e w' ⟨rfl,rfl⟩) | (go_at_call 147;refine EL.out.mono ?_;rintro e w1 ⟨S,hS,cv,pv,rfl,hM1,hcv,hpv,hl1,hl2,hl3,hpm,hbs⟩;obtain⟨A1,k1,rfl,_,_⟩:=j8 hcv;obtain⟨A2,k2,rfl,_,_⟩:=hpv.form;have HS:=hid hS;have HM1:=hid hM1;have Hcv:=hid hcv;have Hl1:=hid hl1;have Hl2:=hid hl2;have Hl3:=hid hl3;have HPM:=hid hpm;have Hbs:=hid hbs;clear hS hM1 hcv hpv hl1 hl2 hl3 hpm hbs))
   obtain⟨W0,hW0⟩:∃W0,W0=w1.alloc (.cells #[.slice (some ⟨g,0,none⟩) S.piv.length c,.slice A1 S.cols.length k1,.slice A2 S.piv.length k2,.bool S.odd] 169):=⟨_,rfl⟩
   have hX:Hid (ja W0 w1.heap.size 169 [.slice (some ⟨g,0,none⟩) S.piv.length c,.slice A1 S.cols.length k1,.slice A2 S.piv.length k2,.bool S.odd]):=hid (by rw[hW0];exact ja.make _ _ _)
   have ha:Below w1.heap.size w1 W0:=by rw[hW0];exact(Below.refl _ _).alloc (Nat.le_refl _) _
   have hsz0:W0.heap.size=w1.heap.size+1:=by rw[hW0];simp
   have HM2:=hid (HM1.out.below ha);have Hcv2:=hid (kC Hcv.out ha)
   have HbW:Hid (jO (g::R.map (·.1)) w W0):=hid (by
    have:=Hbs.out;rw[HQb.out] at this
    exact(hB.out.trans this).below ha)
   have Hsz:Hid (W0.heap.size=w1.heap.size+1):=hid hsz0;have Hww:Hid (w.heap.size≤w1.heap.size):=hid (by have h2:=(hB.out.trans (HQb.out ▸ Hbs.out)).size;exact h2);have Hcl:Hid (∀c∈S.cols,c<n):=hid (by rw[HS.out];exact YH _ _ _ (by omega) (by simp));have HFit:Hid (xy S):=hid (by rw[HS.out,HQl.out];exact HFIN.out);have HSS:Hid (S=j3 jm n R.length 0 ⟨ke List.reverse R R.length,[],[],false⟩):=hid (by rw[HQ.out,←HQl.out];exact HS.out);rw[←hW0]
   have hpl:S.piv.length≤R.length:=by have:=Hl2.out;have:=Hl3.out;have:=HQl.out;omega
   have Hpc:=Hl1;clear ha hsz0 hW0 HM1 Hcv WD EL hB Hbs HPM HQb hMk HS HQ HFIN HOK;obtain⟨i0,hi0,hz0,hz1,hz2⟩:=info_parts Vv;have hofm:=Zp
   go_loopg [9,10] n (fun gh b cl wr=>∃(k:Nat) (B:List (Nat×List Rat)),cl = .int .i64 ((n:Int)-1-k)∧k+gh=n∧Hid (B.map (·.2)=nsBasis jm 0 1 n S k)∧B.length≤k∧Hid (yU wr (w1.heap.size+1) b B n)∧Hid (Below (w1.heap.size+1) W0 wr))
   case atStart=>exact⟨0,[],by go_num,by omega,hid rfl,by simp,hid ⟨World.ownsRow_nil _ _ _ _,kq.nil _ _,by simp⟩,hid (Below.refl _ _)⟩
   case round=>
    obtain⟨k,B,rfl,hk,hBe,hBl,hT,hW⟩:=hrel
    cases gk with
    | zero=>
     have hin2:¬((0:Int)≤(n:Int)-1-k):=by omega
     go_wp2
     go_ret
     have hkn:k=n:=by omega
     have hT':=hT.out;refine⟨_,B,rfl,?_,⟨JA hT'.1 (by have:=Hww.out;omega),hT'.2.1,fun r hr=>⟨by have:=(hT'.2.2 r hr).1;have:=Hww.out;omega,(hT'.2.2 r hr).2⟩⟩,HbW.out.below (hW.out.mono (by rw[Hsz.out];exact Nat.le_refl _))⟩;rw[←HSS.out,hBe.out,hkn]
    | succ gh=>
     have hcol:(n:Int)-1-k=((n-1-k:Nat):Int):=by omega
     have hcn:n-1-k<n:=by omega
     rw[hcol];have Hst:Hid (nsBasis jm 0 1 n S (k+1)=nsBasis jm 0 1 n S k++(if S.cols.contains (n-1-k)=true then [] else [zE jm 0 1 n S (n-1-k)])):=hid rfl;have Hnext:Hid ((n:Int)-1-((k+1:Nat):Int)=((n-1-k:Nat):Int)-1):=hid (by omega);have Hk:=hid hk;clear hcol hk;generalize n-1-k=col at *;have CN:=hid (UH _ _ S.cols col wr (xh Hcv2.out fun j hj _=>hW.out.block j (by have:=Hsz.out;omega)) (by have:=Hpc.out;omega));have hX2:=hX.out.below hW.out (Nat.lt_succ_self _);obtain⟨x0,x1,x2,x3,y0,y1,y2,y3⟩:=hX2.four;by_cases hct:S.cols.contains col=true
     ·have Hct:=hid hct
      clear hct
      go_wp2_with fail
      refine CN.out.mono ?_;rintro e w2 ⟨rfl,rfl⟩;rw[Hct.out]
      go_wp2
      go_roundg gh
      case rel=>exact⟨k+1,B,by rw[Hnext.out],by have:=Hk.out;omega,hid (by rw[Hst.out,if_pos Hct.out,List.append_nil];exact hBe.out),by omega,hT,hW⟩
      case measure=>omega
     ·have Hct:Hid (S.cols.contains col=false):=hid (by simpa using hct)
      clear hct
      go_wp2_with fail
      refine CN.out.mono ?_;rintro e w2 ⟨rfl,rfl⟩;rw[Hct.out];clear CN hX2 x0 x1 x2 x3 y0 y1 y2 y3
      go_wp2_with fail
      refine(Xo _).mono ?_;rintro e w2 ⟨zv,rfl,hzv,hB2⟩;obtain⟨zs,Z1,zn1,zc1,Z2,zn2,zc2,rfl⟩:=hzv.shape;have HF:=hid (Vh _ 0 _ n hn hzv);clear hzv
      go_wp2_with fail
      refine HF.out.mono ?_;rintro e w3 ⟨gl,es3,rfl,hgl,hO3,hB3⟩;have hgl3:=hO3.own.lt;have hglr:wr.heap.size≤gl:=Nat.le_trans hB2.size hgl;have HB3:=hid (hB2.trans (hB3.mono hB2.size));have HO3:=hid hO3;clear hB2 hB3 hgl hO3 HF
      go_wp2_with fail
      refine(Wh _).mono ?_;rintro e w4 ⟨ov,rfl,hov,hB4⟩;obtain⟨os,O1,on1,oc1,O2,on2,oc2,rfl⟩:=hov.shape;have hO4:=HO3.out.below hB4;obtain⟨e4,E1,en1,ec1,E2,en2,ec2,zz0,he4,zz1,c0,c1,c2,f0,f1,f2⟩:=hO4.at_ (j:=col) (by simp;exact hcn);clear zz0 zz1;obtain⟨e40,e4a,e4b⟩:=e4
      have he4':e4a = .slice E1 en1 ec1∧e4b = .slice E2 en2 ec2:=by simpa using he4
      obtain⟨rfl,rfl⟩:=he4';clear he4;dsimp only at c0;have hgl4:=hO4.own.lt;have hl4:Hid (∃es',jo (((w4.setCell ⟨gl,col*3,none⟩ (.bool os)).setCell ⟨gl,col*3+1,none⟩ (.slice O1 on1 oc1)).setCell ⟨gl,col*3+2,none⟩ (.slice O2 on2 oc2)) gl es' (nsSet jm 0 S col 0 ((List.replicate n 0).set col 1))):=hid ⟨_,hO4.put (j:=col) (e:=(os,.slice O1 on1 oc1,.slice O2 on2 oc2)) (q:=1) (by simp;exact hcn) hov⟩;have hW4:Hid (Below wr.heap.size wr (((w4.setCell ⟨gl,col*3,none⟩ (.bool os)).setCell ⟨gl,col*3+1,none⟩ (.slice O1 on1 oc1)).setCell ⟨gl,col*3+2,none⟩ (.slice O2 on2 oc2))):=hid ((((HB3.out.trans (hB4.mono HB3.out.size)).setCell hglr _).setCell hglr _).setCell hglr _);have HX2:=hid (hX.out.below hW.out (Nat.lt_succ_self _));obtain⟨x0,x1,x2,x3,y0,y1,y2,y3⟩:=(HX2.out.below hW4.out HX2.out.lt).four;have HLl:Hid (((List.replicate n (0:Rat)).set col 1).length=n):=hid (by simp);have HLe:Hid (zE jm 0 1 n S col=(nsSet jm 0 S col S.cols.length ((List.replicate n 0).set col 1)).reverse):=hid rfl;generalize (List.replicate n (0:Rat)).set col 1=L0 at *;clear HB3 HO3 hB4 hov hO4
      go_upto_region 15 with fail
      obtain⟨w5,hw5⟩:∃w5,w5=((w4.setCell ⟨gl,col*3,none⟩ (.bool os)).setCell ⟨gl,col*3+1,none⟩ (.slice O1 on1 oc1)).setCell ⟨gl,col*3+2,none⟩ (.slice O2 on2 oc2):=⟨_,rfl⟩
      rw[←hw5] at hl4 hW4 x0 x1 x2 x3 y0 y1 y2 y3;rw[←hw5];clear hw5 c0 c1 c2 f0 f1 f2 hgl4
      go_wp2_with fail
      obtain⟨wb,rfl⟩:∃wb,wb=wr:=⟨_,rfl⟩
      go_loopg [50] S.piv.length (fun gh2 ix wx=>∃i:Nat,ix = .int .i64 i∧i+gh2=S.piv.length∧Hid (Below wb.heap.size wb wx)∧Hid (∃es',jo wx gl es' (nsSet jm 0 S col i L0)))
      case atStart=>exact⟨0,rfl,by omega,hW4,hl4⟩
      case round=>
       clear hl4 hW4 x0 x1 x2 x3 y0 y1 y2 y3;obtain⟨i,rfl,hi,hWx,hOx⟩:=hrel
       cases gk with
       | zero=>
        have hin3:¬((i:Int)<(S.piv.length:Int)):=by omega
        have hOr:Hid (∃es',jo wr gl es' (nsSet jm 0 S col S.cols.length L0)):=hid (by
         have:i=S.cols.length:=by have:=Hpc.out;omega
         rw[←this];exact hOx.out)
        obtain⟨esr,hOr2⟩:=hOr.out;have RV:=hid (Gj wr gl n n esr _ hOr2 (by rw[z8,HLl.out]) (Nat.le_refl _) (by omega))
        have hBl2:B.length<n:=by have:=Hk.out;omega
        clear hOr2
        go_wp2_with fail
        refine RV.out.mono ?_;rintro e w6 ⟨rfl,hO6,hB6⟩;rw[←HLe.out] at hO6;have HO6:=hid hO6;have HB6:=hid (hWx.out.trans (hB6.toBelow hglr hWx.out.size));have HT6:=hid (hT.out.below HB6.out)
        have hs6:w1.heap.size+1≤w6.heap.size:=by have:=HB6.out.size;have:=hW.out.size;have:=Hsz.out;omega
        clear hO6 hB6 RV hOr hOx hWx;obtain⟨A9,k9,hbv,_,_⟩:=j8 HT6.out.1;subst hbv;have hal:Hid (∀o:Obj,Below w6.heap.size w6 (w6.alloc o)):=hid (fun o=>(Below.refl _ _).alloc (Nat.le_refl _) _)
        go_wp2_with (at_builtin;(refine Kv _ rfl _ _ 163 rfl (w1.heap.size+1) 167 i0 (.slice none 0 0) 1 24 Tryz.underlying163 hi0 hz0 hz1 hz2 rfl (by decide) _ _ _ rfl (HT6.out.1.alloc _) ⟨w6.heap.size,0,none⟩ 1 1 [.slice (some ⟨gl,0,none⟩) n n] rfl rfl (cell_one_new _ _ _) (fun x hx=>by simp at hx;subst hx;rfl) (by unfold maxLen;omega) (by omega) (by simp;omega) (by decide) kr (qL HT6.out.2.1 HT6.out.1 (hal.out _)) (Zd _ _ _) ZZ ?_;intro v7 w7 hown7 hgrow7 hall7))
        have HT7:=hid ((HT6.out.below (hal.out _)).snoc hgrow7 hown7 hall7 (by obtain⟨es',h⟩:=HO6.out;exact⟨es',h.below (hal.out _)⟩) (by have:=hW.out.size;have:=Hsz.out;omega) (by rw[HLe.out,List.length_reverse,z8,HLl.out]));have HW7:Hid (Below (w1.heap.size+1) W0 w7):=hid (Below.grown (((hW.out.trans (HB6.out.mono (by have:=hW.out.size;have:=Hsz.out;omega)))).alloc hs6 _) hgrow7 (by simp;omega) (fun j hj=>(HT6.out.1.lt j hj).1))
        go_roundg gh
        case rel=>exact⟨k+1,B++[(gl,zE jm 0 1 n S col)],by rw[Hnext.out],by have:=Hk.out;omega,hid (by rw[Hst.out,if_neg (by rw[Hct.out];simp),List.map_append,hBe.out];rfl),by simp;omega,HT7,HW7⟩
        case measure=>omega
       | succ gh2=>
        have hil:i<S.piv.length:=by omega
        have hil':(i:Int)<(S.piv.length:Int):=by omega
        obtain⟨r,hr⟩:∃r,S.rows[i]? =some r:=⟨S.rows[i]'(by have:=Hl2.out;omega),List.getElem?_eq_getElem _⟩
        have hW0b:Below W0.heap.size W0 wb:=hW.out.mono (by rw[Hsz.out];exact Nat.le_refl _);have hMb:=HM2.out.below hW0b;have cc1:=hMb.cellRow hr;obtain⟨⟨esr,hrq⟩,hrl,hrc1,hrc2⟩:=hMb.row _ (List.mem_of_getElem? hr);obtain⟨er,R1,rn1,rc1,R2,rn2,rc2,zz0,her,hrt,d0,d1,d2,zz1,zz2,zz3⟩:=hrq.at_ (j:=col) (by rw[hrl];exact hcn);clear zz0 zz1 zz2 zz3;obtain⟨er0,era,erb⟩:=er
        have her':era = .slice R1 rn1 rc1∧erb = .slice R2 rn2 rc2:=by simpa using her
        obtain⟨rfl,rfl⟩:=her';clear her;unfold kX at hrt;dsimp only at d0 hrt;have hgb:g<wb.heap.size:=hMb.own.lt;have hrb:r.1<wb.heap.size:=hrq.own.lt;have hyF:=HFit.out r (List.mem_of_getElem? hr) (r.2.2[col]?.getD 0) (by rw[List.getElem?_eq_getElem (by omega)];exact List.getElem_mem (by omega));obtain⟨cb,hA,_,hcbl,hcc⟩:=Ja (kC Hcv2.out hW0b) (j:=i) (by have:=Hpc.out;omega)
        have c3:wb.cell? ⟨cb,i,none⟩=some (.int .i64 ((S.cols[i]?.getD 0:Nat):Int)):=(hcc i (by have:=Hpc.out;omega)).trans (by
         have:i<S.cols.length:=by have:=Hpc.out;omega
         simp[jp,this])
        have hci:S.cols[i]?.getD 0<n:=Hcl.out _ (by
         have:i<S.cols.length:=by have:=Hpc.out;omega
         rw[List.getElem?_eq_getElem this];exact List.getElem_mem this)
        have Hst2:Hid (nsSet jm 0 S col (i+1) L0=(nsSet jm 0 S col i L0).set (S.cols[i]?.getD 0) (0-r.2.2[col]?.getD 0)):=hid (by
         rw[K5]
         congr 1
         show 0-kB jm S.rows i col=_
         unfold kB
         rw[zf hr];rfl)
        subst hA;obtain⟨rb,rc,rl⟩:=r;unfold kK at cc1;dsimp only at cc1 hrl hrc1 hrc2 hyF Hst2 hrb hrt d0 d1 d2;generalize rl[col]?.getD 0=y at *;generalize S.cols[i]?.getD 0=ci at *;have x1b:=HX2.out.four.2.1;have x0b:=HX2.out.four.1;have hXlb:=HX2.out.lt;obtain⟨esx,hOx1⟩:=hOx.out;obtain⟨t4,T1,tn1,tc1,T2,tn2,tc2,zz0,ht4,zz1,c40,c41,c42,f40,f41,f42⟩:=hOx1.at_ (j:=ci) (by rw[z8,HLl.out];exact hci);clear zz0 zz1;obtain⟨t40,t4a,t4b⟩:=t4
        have ht4':t4a = .slice T1 tn1 tc1∧t4b = .slice T2 tn2 tc2:=by simpa using ht4
        obtain⟨rfl,rfl⟩:=ht4';clear ht4;dsimp only at c40;have hgll:=hOx1.own.lt
        have hglL:gl≠rb∧gl≠cb:=by omega
        have Hrt:=hid (fun (x:World) (hb:Below wb.heap.size wb x)=>hrt.below hb);have HyF:=hid hyF;have HOx1:=hid hOx1;have Hr3:=hid (And.intro hrc1 hrc2)
        have KS:Hid (∀x,Below wb.heap.size wb x→x.cell? ⟨w1.heap.size,1,none⟩=some (.slice (some ⟨cb,0,none⟩) S.cols.length k1)∧x.cell? ⟨rb,col*3,none⟩=some (.bool er0)∧x.cell? ⟨rb,col*3+1,none⟩=some (.slice R1 rn1 rc1)∧x.cell? ⟨rb,col*3+2,none⟩=some (.slice R2 rn2 rc2)∧x.cell? ⟨cb,i,none⟩=some (.int .i64 (ci:Nat))∧Below wb.heap.size wb x):=hid (fun x hb=>
         ⟨(hb.cell (p:=⟨w1.heap.size,1,none⟩) hXlb).trans x1b,(hb.cell (p:=⟨rb,col*3,none⟩) hrb).trans d0,(hb.cell (p:=⟨rb,col*3+1,none⟩) hrb).trans d1,(hb.cell (p:=⟨rb,col*3+2,none⟩) hrb).trans d2,(hb.cell (p:=⟨cb,i,none⟩) hcbl).trans c3,hb⟩)
        have cc1r:=(hWx.out.cell (p:=⟨g,i,none⟩) hgb).trans cc1;have hgr:g<wr.heap.size:=Nat.lt_of_lt_of_le hgb hWx.out.size
        have hic:i<S.cols.length:=by have:=Hpc.out;omega
        have hic':(i:Int)<(S.cols.length:Int):=by omega
        have hci':(ci:Int)<(n:Int):=by omega
        have hcn':(col:Int)<(n:Int):=by omega
        clear hr hMb hcc x1b x0b hrl hW0b hrc1 hrc2 hyF hrq hrt cc1 d0 d1 d2 c3 hOx1 hOx;have hM:=WF;have hmn:=WG
        have hmf:∀(fn:Fn) (first cap:Array Value) (w:World),(Instr.makeFunc fn first cap).run Tryz.prog w = .ok (.func fn first cap) w:=fun _ _ _ _=>rfl
        have KT:=hid (fun (x x':World) (hb:Below x.heap.size x x') (h5:Below wb.heap.size wb x)=>KS.out x' (h5.trans (hb.mono h5.size)));have MN:=hid (fun (W:World) (u:Value) (h:Rt W u 0) (hb:Below wb.heap.size wb W)=>Gk u (.agg #[.bool er0,.slice R1 rn1 rc1,.slice R2 rn2 rc2]) 0 y W h (Hrt.out W hb) (xM.zero HyF.out))
        go_wp2_with fail
        go_region_held3 (fun w'=>w'.cell? ⟨w1.heap.size,1,none⟩=some (.slice (some ⟨cb,0,none⟩) S.cols.length k1)∧w'.cell? ⟨rb,col*3,none⟩=some (.bool er0)∧w'.cell? ⟨rb,col*3+1,none⟩=some (.slice R1 rn1 rc1)∧w'.cell? ⟨rb,col*3+2,none⟩=some (.slice R2 rn2 rc2)∧w'.cell? ⟨cb,i,none⟩=some (.int .i64 (ci:Nat))∧Below wb.heap.size wb w')
         (first | exact KS.out _ hWx.out.drew | exact KT.out _ _ (by assumption) (by assumption) | (go_split_ands;exact KS.out _ (((Below.setCell (by assumption) hglr _).setCell hglr _).setCell hglr _)))
         (first
          | (go_at_call 316;go_split_ands;refine(Xo _).mono ?_;rintro e w4 ⟨zv,rfl,hzv,hB4⟩;obtain⟨zs,Z1,zn1,zc1,Z2,zn2,zc2,rfl⟩:=hzv.shape;have a40:=(hB4.cell (p:=⟨gl,ci*3,none⟩) hgll).trans c40;have a41:=(hB4.cell (p:=⟨gl,ci*3+1,none⟩) hgll).trans c41;have a42:=(hB4.cell (p:=⟨gl,ci*3+2,none⟩) hgll).trans c42;have b40:=(hB4.frozen (p:=⟨gl,ci*3,none⟩) hgll).trans f40;have b41:=(hB4.frozen (p:=⟨gl,ci*3+1,none⟩) hgll).trans f41;have b42:=(hB4.frozen (p:=⟨gl,ci*3+2,none⟩) hgll).trans f42;have b4:gl<w4.heap.size:=Nat.lt_of_lt_of_le hgll hB4.size;have a6:=hid (HOx1.out.below (xn hB4));have a7:=hid hzv;clear hzv)
          | (go_at_call 315;go_split_ands;refine(MN.out _ _ a7.out (by assumption)).mono ?_;rintro e w5 ⟨mv,rfl,hmv,hB5⟩;obtain⟨ms,M1,mn1,mc1,M2,mn2,mc2,rfl⟩:=hmv.shape;have d40:=(hB5.cell (p:=⟨gl,ci*3,none⟩) b4).trans a40;have d41:=(hB5.cell (p:=⟨gl,ci*3+1,none⟩) b4).trans a41;have d42:=(hB5.cell (p:=⟨gl,ci*3+2,none⟩) b4).trans a42;have e40:=(hB5.frozen (p:=⟨gl,ci*3,none⟩) b4).trans b40;have e41:=(hB5.frozen (p:=⟨gl,ci*3+1,none⟩) b4).trans b41;have e42:=(hB5.frozen (p:=⟨gl,ci*3+2,none⟩) b4).trans b42;have d6:=hid (a6.out.below hB5);have d7:=hid hmv;clear hmv))
        all_goals (
         have HW7:Hid (Below wb.heap.size wb (((w5.setCell ⟨gl,ci*3,none⟩ (.bool ms)).setCell ⟨gl,ci*3+1,none⟩ (.slice M1 mn1 mc1)).setCell ⟨gl,ci*3+2,none⟩ (.slice M2 mn2 mc2))):=hid (by go_split_ands;assumption)
         have HO7:Hid (∃es',jo (((w5.setCell ⟨gl,ci*3,none⟩ (.bool ms)).setCell ⟨gl,ci*3+1,none⟩ (.slice M1 mn1 mc1)).setCell ⟨gl,ci*3+2,none⟩ (.slice M2 mn2 mc2)) gl es' (nsSet jm 0 S col (i+1) L0)):=hid (by
          rw[Hst2.out]
          exact⟨_,d6.out.put (j:=ci) (e:=(ms,.slice M1 mn1 mc1,.slice M2 mn2 mc2)) (by rw[z8,HLl.out];omega) d7.out⟩)
         clear a40 a41 a42 b40 b41 b42 d40 d41 d42 e40 e41 e42 a6 a7 d6 d7 hB4 hB5 cc1r c40 c41 c42 f40 f41 f42 HOx1 hWx
         go_wp2
         go_roundg gh2
         case rel=>exact⟨i+1,by go_num,by omega,HW7,HO7⟩
         case measure=>omega)
end Go.Proofs.YtneafcdfnhnpnaaGreatDoor
namespace Go.Proofs.YtneafcdfnhnpnaaGreatDoor
open Go.RowKit Go.Lib
def qA (S:jP Rat) (k:Nat):Rat:=(S.piv.take k).foldl (· * ·) (if S.odd=true then -1 else 1)
theorem Sp (S:jP Rat) {k:Nat} (h:k<S.piv.length):qA S (k+1)=qA S k*S.piv[k]?.getD 0:=by
 unfold qA;rw[List.take_add_one,List.getElem?_eq_getElem h,List.foldl_append];rfl
def yF (n:Nat) (M:List (List Rat)):Rat:=if (kY jm n M).piv.length<M.length then 0 else qA (kY jm n M) (kY jm n M).piv.length
def Qz (S:jP Rat):Prop:=∀k,k<S.piv.length→kA (qA S k)∧kA (S.piv[k]?.getD 0)
theorem UU {S Z:jP Rat} (h:kt S Z) (k:Nat):qA S k=qA Z k:=by unfold qA;rw[h.piv,h.odd]
def Sq (n g:Nat) (R:List jI) (w:World) (e:Ending) (w':World):Prop:=
 ∃v,e = .returned v∧Rt w' v (yF n (jv R))∧jO (g::R.map (·.1)) w w'
theorem kH.at_ {w:World} {base n c:Nat} {A:Option Addr} {V:List Rat} (h:kH w base (.slice A n c) V) {j:Nat} (hj:j<V.length):
  ∃(g:Nat) (s:Bool) (B1:Option Addr) (m1 k1:Nat) (B2:Option Addr) (m2 k2:Nat),A=some ⟨g,0,none⟩∧base≤g∧g<w.heap.size∧Rt w (.agg #[.bool s,.slice B1 m1 k1,.slice B2 m2 k2]) (V[j]?.getD 0) ∧
   w.cell? ⟨g,j*3,none⟩=some (.bool s)∧w.cell? ⟨g,j*3+1,none⟩=some (.slice B1 m1 k1)∧w.cell? ⟨g,j*3+2,none⟩=some (.slice B2 m2 k2):=by
 obtain⟨es,h1,h2,h3,h4⟩:=h
 have hje:j<es.length:=by omega
 obtain⟨e,he⟩:∃e,es[j]? =some e:=⟨es[j],List.getElem?_eq_getElem hje⟩
 have hr:=h4 j e _ he (List.getElem?_eq_getElem hj);obtain⟨s,B1,m1,k1,B2,m2,k2,hs⟩:=hr.shape;obtain⟨c1,c2,c3⟩:=Q0 es j e he
 rcases h1.2 with ⟨hA,hn⟩ | ⟨g,cap,cur,hA,hb,hg,_,_,_,htake⟩
 ·omega
 ·injection hA with hA1 hA2 hA3
  subst hA1
  have hcell:∀i u,(jz es)[i]? =some u→w.cell? ⟨g,i,none⟩=some u:=by
   intro i u hu;rw[cell_of_row w g i cur _ (0,0) hg];rw[←htake,List.getElem?_take] at hu;split at hu
   ·simpa using hu
   ·cases hu
  obtain⟨s',a',b'⟩:=e;simp[kX] at hs;obtain⟨rfl,rfl,rfl⟩:=hs;exact⟨g,_,B1,m1,k1,B2,m2,k2,rfl,hb,(Array.getElem?_eq_some_iff.1 hg).1,by rw[List.getElem?_eq_getElem hj];exact hr,hcell _ _ c1,hcell _ _ c2,hcell _ _ c3⟩
theorem Dt (w:World):Calls Tryz.prog 316 #[.agg #[],.int .i64 (-1)] w (qC (-1) w):=by
 have:=Zz (-1) w (by omega) (by omega)
 have e:((-1:Int):Rat) = -1:=by simp[Rat.intCast_neg]
 rw[e] at this;exact this
theorem Zu {s:List Nat} {w x:World} {q:Rat} {g:Nat} {b:Bool} {A B:Option Addr} {n m c d:Nat} (hv:Rt x (.agg #[.bool b,.slice A n c,.slice B m d]) q) (hR:ja x g 122 [.bool false,.slice none 0 0,.slice none 0 0]) (hB:jO s w x) (hg:w.heap.size≤g):
  Rt (((x.setCell ⟨g,0,none⟩ (.bool b)).setCell ⟨g,1,none⟩ (.slice A n c)).setCell ⟨g,2,none⟩ (.slice B m d)) (.agg #[.bool b,.slice A n c,.slice B m d]) q∧jO s w (((x.setCell ⟨g,0,none⟩ (.bool b)).setCell ⟨g,1,none⟩ (.slice A n c)).setCell ⟨g,2,none⟩ (.slice B m d)):=by
 refine⟨hv.stay hR (fun c hc=> ?_) (jh.set3 x g 0 _ _ _),((hB.setNew ⟨g,0,none⟩ hg _).setNew ⟨g,1,none⟩ hg _).setNew ⟨g,2,none⟩ hg _⟩;simp only[List.mem_cons,List.not_mem_nil,or_false] at hc;rcases hc with rfl | rfl | rfl
 ·exact js _
 ·exact jq _ _ _
 ·exact jq _ _ _
theorem Ss (g c n:Nat) (R:List jI) (w:World) (hM:j6 w g R n) (hc:R.length≤c) (hc2:c≤1000000) (hn:n≤1000000) (hok:zq n (jv R)) (hdet:Qz (kY jm n (jv R))):
  Calls Tryz.prog 160 #[.iface 172 (.agg #[]),.slice (some ⟨g,0,none⟩) R.length c] w (Sq n g R w):=by
 have hal:Below w.heap.size w (w.alloc (.cells #[.bool false,.slice none 0 0,.slice none 0 0] 122)):=(Below.refl _ _).alloc (Nat.le_refl _) _;have HO0:=hid (ja.make w 122 [.bool false,.slice none 0 0,.slice none 0 0]);have HDet:=hid hdet;have EL:=hid (YK g c n R _ (hM.below hal) hc hc2 hn (hok.rows rfl));have HM:=hid hM;clear hok hdet hal hM;go_enter Tryz.func160,Tryz.ntmps160
 go_wp2_with fail
 refine EL.out.mono ?_;clear EL;rintro e w1 ⟨S,hS,cv,pv,rfl,hM1,hcv,hpv,hl1,hl2,hl3,hpm,hbs⟩;obtain⟨A1,k1,rfl,_,_⟩:=j8 hcv;obtain⟨A2,k2,rfl,_,_⟩:=hpv.form;have HSame:Hid (kt S (kY jm n (jv R))):=hid (by rw[hS];exact Q5 rfl _)
 have hlt:∀k∈g::R.map (·.1),k<w.heap.size:=by
  intro k hk;exact HM.out.lt (by rcases List.mem_cons.1 hk with h | h;exact .inl h;exact .inr h)
 have HO1:Hid (ja w1 w.heap.size 122 [.bool false,.slice none 0 0,.slice none 0 0]):=hid ((hbs.block w.heap.size (by simp) (fun h=>by have:=hlt _ h;omega)).trans HO0.out);have HBS:Hid (jO (g::R.map (·.1)) w w1):=hid ((jO.of_below ((Below.refl _ w).alloc (Nat.le_refl _) _)).trans hbs)
 have hw1:w.heap.size+1≤w1.heap.size:=by have:=hbs.size;simpa using this
 have hlp:S.piv.length≤R.length:=by omega
 have Hpv:=hid hpv;have HvR:Hid ((jv R).length=R.length):=hid (yk R)
 have HDp:Hid (Qz S):=hid (by
  have:=HDet.out;unfold Qz at this ⊢;rw[HSame.out.piv];intro k hk
  rw[UU HSame.out];exact this k hk)
 clear hS hM1 hcv hpv hl1 hl2 hl3 hpm hbs hlt HO0 HM HDet;have hofm:=Zp;have hT:=WI
 obtain⟨W0,hW0⟩:∃W0,W0=w1.alloc (.cells #[.slice (some ⟨g,0,none⟩) S.piv.length c,.slice A1 S.cols.length k1,.slice A2 S.piv.length k2,.bool S.odd] 169):=⟨_,rfl⟩
 have hX:Hid (ja W0 w1.heap.size 169 [.slice (some ⟨g,0,none⟩) S.piv.length c,.slice A1 S.cols.length k1,.slice A2 S.piv.length k2,.bool S.odd]):=hid (by rw[hW0];exact ja.make _ _ _)
 have ha:Below w1.heap.size w1 W0:=by rw[hW0];exact(Below.refl _ _).alloc (Nat.le_refl _) _
 have hsz0:W0.heap.size=w1.heap.size+1:=by rw[hW0];simp
 have Hpv0:=hid (Hpv.out.below ha);have HO2:=hid (HO1.out.below ha HO1.out.lt);have HBS0:=hid (HBS.out.below ha);clear ha Hpv HO1 HBS;by_cases hl:S.piv.length<R.length
 ·have hl':(S.piv.length:Int)<(R.length:Int):=by omega
  have hdl:decide (S.piv.length<R.length)=true:=by simpa using hl
  go_wp2_with fail
  rw[←hW0];refine(Xo _).mono ?_;rintro e w2 ⟨zv,rfl,hzv,hB2⟩;obtain⟨zs,Z1,zn1,zc1,Z2,zn2,zc2,rfl⟩:=hzv.shape;have hO3:=HO2.out.below hB2 HO2.out.lt;obtain⟨e0,e1,e2,f0,f1,f2⟩:=hO3.three;have hF:=Zu hzv hO3 (HBS0.out.below hB2) (Nat.le_refl _);have Hd:Hid (yF n (jv R)=0):=hid (by unfold yF;rw[←HSame.out.piv,HvR.out,if_pos hl]);have HF:=hid hF;have hol:=hO3.lt;clear hF hzv hB2 hO3
  go_wp2
  exact bodyPost_ret (v:= .agg #[.bool zs,.slice Z1 zn1 zc1,.slice Z2 zn2 zc2]) (by simp[results,Tryz.results160,go_sem,e0,e1,e2]) rfl ⟨_,rfl,by rw[Hd.out];exact HF.out.1,HF.out.2⟩
 ·have hl':¬((S.piv.length:Int)<(R.length:Int)):=by omega
  have hdl:decide (S.piv.length<R.length)=false:=by simpa using hl
  have Hd:Hid (yF n (jv R)=qA S S.piv.length):=hid (by unfold yF;rw[←HSame.out.piv,HvR.out,if_neg hl,UU HSame.out])
  go_wp2_with fail
  rw[←hW0];clear hW0;refine(Wh _).mono ?_;rintro e w2 ⟨ov,rfl,hov,hB2⟩;obtain⟨os,O1,on1,oc1,O2,on2,oc2,rfl⟩:=hov.shape;have hal2:Below w2.heap.size w2 (w2.alloc (.cells #[.bool os,.slice O1 on1 oc1,.slice O2 on2 oc2] 122)):=(Below.refl _ _).alloc (Nat.le_refl _) _
  have HV:Hid (jo (w2.alloc (.cells #[.bool os,.slice O1 on1 oc1,.slice O2 on2 oc2] 122)) w2.heap.size [(os,.slice O1 on1 oc1,.slice O2 on2 oc2)] [1]):=hid ⟨ja.make w2 _ [.bool os,.slice O1 on1 oc1,.slice O2 on2 oc2],Nat.le_refl _,fun e' he'=>by simp at he';subst he';exact⟨jq _ _ _,jq _ _ _⟩,fun i e' q h1 h2=>by
   cases i with
   | zero=>simp at h1 h2;subst h1 h2;exact hov.below hal2
   | succ i=>simp at h1⟩
  have HB2:=hid (hB2.trans (hal2.mono hB2.size));have hvb:W0.heap.size≤w2.heap.size:=hB2.size;have hX2:=hX.out.below HB2.out hX.out.lt;obtain⟨x0,x1,x2,x3,y0,y1,y2,y3⟩:=hX2.four;have hXl:=hX2.lt;clear hov hB2 hal2 hX2;by_cases hodd:S.odd=true
  case' pos=>
   rw[hodd] at x3;have HD0:Hid (qA S 0 = -1):=hid (by unfold qA;rw[if_pos hodd];rfl);clear hodd
   go_upto_region 6 with fail
   obtain⟨W2,hW2⟩:∃W2,W2=w2.alloc (.cells #[.bool os,.slice O1 on1 oc1,.slice O2 on2 oc2] 122):=⟨_,rfl⟩
   rw[←hW2] at HV HB2 x0 x1 x2 x3 y0 y1 y2 y3 hXl;rw[←hW2];clear hW2;generalize w2.heap.size=vb at *
   go_wp2_with fail
   refine(Dt _).mono ?_;rintro e w3 ⟨mv,rfl,hmv,hB3⟩;obtain⟨ms,M1,mn1,mc1,M2,mn2,mc2,rfl⟩:=hmv.shape;have hV3:=HV.out.below hB3;obtain⟨v0,v1,v2,u0,u1,u2⟩:=hV3.own.three;have hvl:=hV3.own.lt
   have HV4:Hid (∃s B1 m1 k1 B2 m2 k2,jo (((w3.setCell ⟨vb,0,none⟩ (.bool ms)).setCell ⟨vb,1,none⟩ (.slice M1 mn1 mc1)).setCell ⟨vb,2,none⟩ (.slice M2 mn2 mc2)) vb [(s,.slice B1 m1 k1,.slice B2 m2 k2)] [qA S 0]):=hid (by
    rw[HD0.out];have:=hV3.put (j:=0) (e:=(ms,.slice M1 mn1 mc1,.slice M2 mn2 mc2)) (q:=-1) (by simp) hmv
    exact⟨_,_,_,_,_,_,_,this⟩)
   have HB4:=hid ((((HB2.out.trans (hB3.mono HB2.out.size)).setCell (p:=⟨vb,0,none⟩) hvb (.bool ms)).setCell (p:=⟨vb,1,none⟩) hvb (.slice M1 mn1 mc1)).setCell (p:=⟨vb,2,none⟩) hvb (.slice M2 mn2 mc2));clear hmv hB3 hV3 x0 x1 x2 x3 y0 y1 y2 y3 HV HB2 hXl
   go_upto_region 7 with fail
   obtain⟨w4,hw4⟩:∃w4,w4=((w3.setCell ⟨vb,0,none⟩ (.bool ms)).setCell ⟨vb,1,none⟩ (.slice M1 mn1 mc1)).setCell ⟨vb,2,none⟩ (.slice M2 mn2 mc2):=⟨_,rfl⟩
   rw[←hw4] at HV4 HB4;rw[←hw4];clear hw4 v0 v1 v2 u0 u1 u2 hvl HD0
  case' neg=>
   have hodd':S.odd=false:=by simpa using hodd
   rw[hodd'] at x3;have HD0:Hid (qA S 0=1):=hid (by unfold qA;rw[if_neg hodd];rfl);clear hodd hodd'
   go_upto_region 7 with fail
   obtain⟨w4,hW2⟩:∃w4,w4=w2.alloc (.cells #[.bool os,.slice O1 on1 oc1,.slice O2 on2 oc2] 122):=⟨_,rfl⟩
   rw[←hW2] at HV HB2;rw[←hW2];clear hW2 x0 x1 x2 x3 y0 y1 y2 y3 hXl;generalize w2.heap.size=vb at *;have HV4:Hid (∃s B1 m1 k1 B2 m2 k2,jo w4 vb [(s,.slice B1 m1 k1,.slice B2 m2 k2)] [qA S 0]):=hid (by rw[HD0.out];exact⟨_,_,_,_,_,_,_,HV.out⟩);have HB4:=HB2;clear HV HB2 HD0
  all_goals
   have hX4:=hX.out.below HB4.out hX.out.lt;obtain⟨x0,x1,x2,x3,y0,y1,y2,y3⟩:=hX4.four;have hXl:=hX4.lt;clear hX4
   go_wp2_with fail
   clear x0 x1 x2 x3 y0 y1 y2 y3 hXl
   go_loopg [29] S.piv.length (fun gh ix wx=>∃i:Nat,ix = .int .i64 i∧i+gh=S.piv.length∧Hid (Below W0.heap.size W0 wx)∧Hid (∃s B1 m1 k1 B2 m2 k2,jo wx vb [(s,.slice B1 m1 k1,.slice B2 m2 k2)] [qA S i]))
   case atStart=>exact⟨0,rfl,by omega,HB4,HV4⟩
   case round=>
    clear HB4 HV4;obtain⟨i,rfl,hi,hWx,hVx⟩:=hrel;obtain⟨vs,V1,vn1,vc1,V2,vn2,vc2,hV⟩:=hVx.out;obtain⟨v0,v1,v2,u0,u1,u2⟩:=hV.own.three;have hvl:=hV.own.lt;have HV:=hid hV;clear hV hVx
    cases gk with
    | zero=>
     have hin3:¬((i:Int)<(S.piv.length:Int)):=by omega
     have hO3:=HO2.out.below hWx.out HO2.out.lt;obtain⟨e0,e1,e2,f0,f1,f2⟩:=hO3.three;have hrt:=HV.out.num 0 _ _ rfl rfl;rw[show i=S.piv.length by omega] at hrt;have HF:=hid (Zu hrt hO3 (HBS0.out.below hWx.out) (Nat.le_refl _));have hol:=hO3.lt;clear hrt hO3
     go_wp2
     exact bodyPost_ret (v:= .agg #[.bool vs,.slice V1 vn1 vc1,.slice V2 vn2 vc2]) (by simp[results,Tryz.results160,go_sem,e0,e1,e2]) rfl ⟨_,rfl,by rw[Hd.out];exact HF.out.1,HF.out.2⟩
    | succ gh2=>
     have hil:i<S.piv.length:=by omega
     have hil':(i:Int)<(S.piv.length:Int):=by omega
     obtain⟨pb,ps,P1,pn1,pc1,P2,pn2,pc2,hA,_,hpbl,hprt,p0,p1,p2⟩:=(Hpv0.out.below hWx.out).at_ hil;have hfit:=HDp.out i hil;have Hsucc:=hid (Sp S hil);have Hi:=hid hi;have hal3:Below wr.heap.size wr (wr.alloc (.cells #[.bool ps,.slice P1 pn1 pc1,.slice P2 pn2 pc2] 122)):=(Below.refl _ _).alloc (Nat.le_refl _) _;have TM:=hid (Gl (.agg #[.bool vs,.slice V1 vn1 vc1,.slice V2 vn2 vc2]) (.agg #[.bool ps,.slice P1 pn1 pc1,.slice P2 pn2 pc2]) (qA S i) (S.piv[i]?.getD 0) _ ((HV.out.num 0 _ _ rfl rfl).below hal3) (hprt.below hal3) hfit.1.1 hfit.1.2 hfit.2.1 hfit.2.2);have HPX:=hid (ja.make wr 122 [.bool ps,.slice P1 pn1 pc1,.slice P2 pn2 pc2]);subst hA;clear hprt hfit hi hal3
     go_wp2_with fail
     refine TM.out.mono ?_;clear TM;rintro e w5 ⟨rv,rfl,hrv,hB5⟩;obtain⟨rs,R1,rn1,rc1,R2,rn2,rc2,rfl⟩:=hrv.shape;have hB15:Below wr.heap.size wr w5:=((Below.refl wr.heap.size wr).alloc (Nat.le_refl _) _).trans (hB5.mono (by simp));have hV5:=HV.out.below hB15;obtain⟨v0',v1',v2',u0',u1',u2'⟩:=hV5.own.three;have hvl5:=hV5.own.lt
     have HV6:Hid (∃s B1 m1 k1 B2 m2 k2,jo (((w5.setCell ⟨vb,0,none⟩ (.bool rs)).setCell ⟨vb,1,none⟩ (.slice R1 rn1 rc1)).setCell ⟨vb,2,none⟩ (.slice R2 rn2 rc2)) vb [(s,.slice B1 m1 k1,.slice B2 m2 k2)] [qA S (i+1)]):=hid (by
      rw[Hsucc.out];have:=hV5.put (j:=0) (e:=(rs,.slice R1 rn1 rc1,.slice R2 rn2 rc2)) (q:=qA S i*S.piv[i]?.getD 0) (by simp) hrv
      exact⟨_,_,_,_,_,_,_,this⟩)
     have HW6:=hid ((((hWx.out.trans (hB15.mono hWx.out.size)).setCell (p:=⟨vb,0,none⟩) hvb (.bool rs)).setCell (p:=⟨vb,1,none⟩) hvb (.slice R1 rn1 rc1)).setCell (p:=⟨vb,2,none⟩) hvb (.slice R2 rn2 rc2));clear v0 v1 v2 u0 u1 u2 p0 p1 p2 hrv hB5 hB15 hV5 HV hWx HPX
     go_wp2
     go_roundg gh2
     case rel=>exact⟨i+1,by go_num,by have:=Hi.out;omega,HW6,HV6⟩
     case measure=>omega
def xT (a b:Int):Int:=if a=0 then b else a
theorem KE {ws:List Nat} (h:ki ws) {n:Nat} (hv:jb ws<B9^n):ws.length≤n:=by
 rcases Nat.lt_or_ge n ws.length with hl | hl
 ·have hne:ws≠[]:=by intro e;subst e;simp at hl
  have:=JZ h hne;have h2:B9^n≤B9^(ws.length-1):=Nat.pow_le_pow_right (by decide) (by omega);omega
 ·exact hl
theorem QL {a b:List Nat} (ha:jG a) (hb:ki b) (h:a.length<b.length):jb a<jb b:=by
 have h1:=qz ha;have h2:=JZ hb (by intro e;subst e;simp at h);have h3:B9^a.length≤B9^(b.length-1):=Nat.pow_le_pow_right (by decide) (by omega);omega
theorem QN (ws:List Nat) (k:Nat) (hk:k<ws.length):jb ws=jb (ws.take k)+B9^k*(ws[k]?.getD 0+B9*jb (ws.drop (k+1))):=by
 have h:ws=ws.take k++(ws[k]?.getD 0::ws.drop (k+1)):=by
  rw[List.getElem?_eq_getElem hk]
  simp
 conv=>lhs;rw[h]
 rw[J2];simp only[jb,List.length_take];rw[Nat.min_eq_left (by omega)]
theorem UA {a b:List Nat} (ha:jG a) (hl:a.length=b.length) (k:Nat) (hk:k<a.length) (hd:a.drop (k+1)=b.drop (k+1)) (hlt:a[k]?.getD 0<b[k]?.getD 0):jb a<jb b:=by
 rw[QN a k hk,QN b k (by omega),hd];have h1:=qz (zU ha k);rw[List.length_take,Nat.min_eq_left (by omega)] at h1;generalize jb (b.drop (k+1))=D at *;generalize a[k]?.getD 0=x at *;generalize b[k]?.getD 0=y at *
 have h2:B9^k*(x+B9*D)+B9^k*1≤B9^k*(y+B9*D):=by rw[←Nat.mul_add];exact Nat.mul_le_mul_left _ (by omega)
 omega
theorem QP (ws:List Nat) (k:Nat):jb (ws.take (k+1))=jb (ws.take k)+B9^k*ws[k]?.getD 0:=by
 rcases Nat.lt_or_ge k ws.length with h | h
 ·rw[yO ws k h,zV,List.length_take,Nat.min_eq_left (by omega)]
 ·rw[List.take_of_length_le (by omega),List.take_of_length_le h,List.getElem?_eq_none h];simp
theorem zT {L:List Nat} (h:jG L) (k x:Nat) (hx:x<B9):jG (L.set k x):=by
 intro y hy;rcases List.mem_or_eq_of_mem_set hy with h1 | h1
 ·exact h y h1
 ·omega
theorem QK (n:Nat):jG (List.replicate n 0):=by
 intro x hx;rw[List.eq_of_mem_replicate hx];decide
theorem Rf (ws:List Nat) (k:Nat):jb (ws.take k)≤jb ws:=by
 conv=>rhs;rw[←List.take_append_drop k ws]
 rw[J2];omega
def zn (xs L:List Nat) (b k r:Nat):Prop:=L.length=xs.length∧jG L∧r<b∧jb (xs.drop k)=jb (L.drop k)*b+r
theorem zn.start (xs:List Nat) (b:Nat) (hb:0<b):zn xs (List.replicate xs.length 0) b xs.length 0:=
 ⟨by simp,QK _,hb,by simp[jb]⟩
theorem zn.step {xs L:List Nat} {b k r:Nat} (h:zn xs L b (k+1) r) (hk:k<xs.length) (hb:0<b) (hq:(r*B9+xs[k]?.getD 0)/b<B9):
  zn xs (L.set k ((r*B9+xs[k]?.getD 0)/b)) b k ((r*B9+xs[k]?.getD 0)%b):=by
 obtain⟨h1,h2,h3,h4⟩:=h;refine⟨by simp[h1],zT h2 _ _ hq,Nat.mod_lt _ hb,?_⟩;rw[Js xs k hk,Js (L.set k _) k (by simp;omega),Ju _ _ _ (by omega),List.drop_set_of_lt (by omega)];simp only[jb,h4];have:=Nat.div_add_mod (r*B9+xs[k]?.getD 0) b;generalize (r*B9+xs[k]?.getD 0)/b=q at *;generalize (r*B9+xs[k]?.getD 0)%b=r' at *
 have e:B9*(jb (L.drop (k+1))*b+r)=B9*jb (L.drop (k+1))*b+r*B9:=by rw[Nat.mul_add,Nat.mul_assoc,Nat.mul_comm B9 r]
 rw[e,Nat.add_mul,Nat.mul_comm q b];omega
theorem SE {b r x:Nat} (hr:r<b) (hx:x<B9):(r*B9+x)/b<B9:=by
 rw[Nat.div_lt_iff_lt_mul (by omega),Nat.mul_comm B9 b];have:(r+1)*B9≤b*B9:=Nat.mul_le_mul_right _ hr;rw[Nat.add_mul] at this;omega
theorem zn.last {xs L:List Nat} {b r:Nat} (h:zn xs L b 0 r):jb L=jb xs/b∧r=jb xs%b:=by
 obtain⟨h1,h2,h3,h4⟩:=h;simp only[List.drop_zero] at h4;rw[h4];refine⟨?_,?_⟩
 ·rw[Nat.mul_comm,Nat.mul_add_div (by omega),Nat.div_eq_of_lt h3];omega
 ·rw[Nat.mul_comm,Nat.mul_add_mod,Nat.mod_eq_of_lt h3]
theorem QM (L:List Nat) (j d:Nat) (h:j<L.length):jb (L.set j d)+B9^j*L[j]?.getD 0=jb L+B9^j*d:=by
 rw[QN L j h,QN (L.set j d) j (by simpa using h),JJ _ _ _ _ (Nat.le_refl _),Ju L j d h,List.drop_set_of_lt (by omega)];simp only[Nat.mul_add];omega
def ym (bs L0 L:List Nat) (f off k c:Nat):Prop:=L.length=L0.length∧jG L∧L.drop (off+bs.length)=L0.drop (off+bs.length)∧c<B9 ∧
 jb L+B9^(off+k)*c=jb L0+B9^off*(jb (bs.take k)*f)
theorem ym.start {bs L0:List Nat} (f off:Nat) (h:jG L0):ym bs L0 L0 f off 0 0:=⟨rfl,h,rfl,by decide,by simp[jb]⟩
theorem ym.step {bs L0 L:List Nat} {f off k c d c':Nat} (h:ym bs L0 L f off k c) (hk:k<bs.length) (hlen:off+bs.length≤L0.length) (hd:d<B9) (hc:c'<B9)
  (he:d+B9*c'=L[off+k]?.getD 0+c+bs[k]?.getD 0*f):ym bs L0 (L.set (off+k) d) f off (k+1) c':=by
 obtain⟨h1,h2,h3,h4,h5⟩:=h;refine⟨by simp[h1],zT h2 _ _ hd,by rw[List.drop_set_of_lt (by omega)];exact h3,hc,?_⟩;have hs:=QM L (off+k) d (by omega);rw[QP bs,show off+(k+1)=(off+k)+1 from by omega,Nat.pow_succ]
 have e:B9^(off+k)*(d+B9*c')=B9^(off+k)*(L[off+k]?.getD 0+c+bs[k]?.getD 0*f):=by rw[he]
 have e2:B9^off*(B9^k*bs[k]?.getD 0*f)=B9^(off+k)*(bs[k]?.getD 0*f):=by rw[Nat.pow_add,Nat.mul_assoc,Nat.mul_assoc]
 simp only[Nat.mul_add,Nat.add_mul,e2] at e hs h5 ⊢;rw[Nat.mul_assoc (B9^(off+k)) B9 c'];omega
def yB (xs bs L:List Nat) (k:Nat):Prop:=L.length=xs.length+bs.length∧jG L∧jb L=jb (xs.take k)*jb bs∧L.drop (k+bs.length)=List.replicate (xs.length-k) 0
theorem yB.start (xs bs:List Nat):yB xs bs (List.replicate (xs.length+bs.length) 0) 0:=by
 refine⟨by simp,QK _,?_,by simp⟩;simp only[List.take_zero,jb,Nat.zero_mul]
 induction (xs.length+bs.length) with
 | zero=>rfl
 | succ n ih=>simp[List.replicate_succ,jb,ih]
theorem yB.step {xs bs L L':List Nat} {k c:Nat} (h:yB xs bs L k) (hk:k<xs.length) (ha:ym bs L L' (xs[k]?.getD 0) k bs.length c):
  yB xs bs (L'.set (k+bs.length) c) (k+1):=by
 obtain⟨h1,h2,h3,h4⟩:=h;obtain⟨a1,a2,a3,a4,a5⟩:=ha;have hs:=QM L' (k+bs.length) c (by omega)
 have hz:L'[k+bs.length]?.getD 0=0:=by
  have:L'.drop (k+bs.length)=List.replicate (xs.length-k) 0:=by rw[a3,h4]
  have e:(L'.drop (k+bs.length))[0]?.getD 0=L'[k+bs.length]?.getD 0:=by simp
  rw[←e,this];rw[List.getElem?_replicate];split <;> rfl
 rw[hz] at hs;refine⟨by simp;omega,zT a2 _ _ a4,?_,?_⟩
 ·rw[QP xs]
  rw[List.take_of_length_le (Nat.le_refl _),h3] at a5;simp only[Nat.add_mul];rw[Nat.mul_assoc,Nat.mul_comm (xs[k]?.getD 0) (jb bs)];omega
 ·rw[show k+1+bs.length=k+bs.length+1 from by omega,List.drop_set_of_lt (by omega),←List.drop_drop,a3,h4,List.drop_replicate]
  congr 1
theorem yB.last {xs bs L:List Nat} (h:yB xs bs L xs.length):jb L=jb xs*jb bs:=by
 obtain⟨h1,h2,h3,h4⟩:=h;rw[h3,List.take_of_length_le (Nat.le_refl _)]
structure Kn (B P top u2 v1 v2 U V:Nat):Prop where
 lo:(top*B+u2)*P≤U
 hi:U<(top*B+u2+1)*P
 vlo:(v1*B+v2)*P≤V
 vhi:V<(v1*B+v2+1)*P
 v2lt:v2<B
 u2lt:u2<B
 lt:U<B*V
 norm:B≤2*v1
theorem Kn.pos {B P top u2 v1 v2 U V:Nat} (h:Kn B P top u2 v1 v2 U V):0<P:=by
 rcases Nat.eq_zero_or_pos P with h0 | h0
 ·have:=h.hi;rw[h0] at this;omega
 ·exact h0
theorem Kn.top_le {B P top u2 v1 v2 U V:Nat} (h:Kn B P top u2 v1 v2 U V):top≤v1*B+v2:=by
 have h1:(top*B+u2)*P<(B*(v1*B+v2+1))*P:=by
  have h2:B*V<B*((v1*B+v2+1)*P):=Nat.mul_lt_mul_of_pos_left h.vhi (by have:=h.v2lt;omega);have:=h.lo;have:=h.lt;rw[Nat.mul_assoc];omega
 have h2:=Nat.lt_of_mul_lt_mul_right h1
 have h3:B*top<B*(v1*B+v2+1):=by rw[Nat.mul_comm B top];omega
 have:=Nat.lt_of_mul_lt_mul_left h3;omega
theorem Kn.third {B P top u2 v1 v2 U V t r:Nat} (h:Kn B P top u2 v1 v2 U V) (e:top=t*v1+r) (ht:B<t):r+v1<B:=by
 have h1:=h.top_le;have h2:=h.v2lt;have h3:(B+1)*v1≤t*v1:=Nat.mul_le_mul_right _ ht;rw[Nat.add_mul,Nat.mul_comm B v1] at h3;omega
theorem Kn.over {B P top u2 v1 v2 U V t r:Nat} (h:Kn B P top u2 v1 v2 U V) (e:top=t*v1+r) (ht:r*B+u2<t*v2):U<t*V:=by
 have h1:top*B+u2+1≤t*(v1*B+v2):=by
  rw[e,Nat.add_mul,Nat.mul_add,←Nat.mul_assoc];omega
 have h2:(top*B+u2+1)*P≤t*(v1*B+v2)*P:=Nat.mul_le_mul_right _ h1;have h3:t*((v1*B+v2)*P)≤t*V:=Nat.mul_le_mul_left _ h.vlo;rw[←Nat.mul_assoc] at h3;have:=h.hi;omega
theorem Kn.good {B P top u2 v1 v2 U V t r:Nat} (h:Kn B P top u2 v1 v2 U V) (e:top=t*v1+r) (ht:t*v2≤r*B+u2) (hb:t<B):t*V<U+V:=by
 have h1:t*(v1*B+v2)≤top*B+u2:=by
  rw[e,Nat.add_mul,Nat.mul_add,←Nat.mul_assoc];omega
 have h2:t*(v1*B+v2)*P≤(top*B+u2)*P:=Nat.mul_le_mul_right _ h1;have h3:t*V≤t*((v1*B+v2+1)*P):=Nat.mul_le_mul_left _ (Nat.le_of_lt h.vhi)
 have h4:t*((v1*B+v2+1)*P)=t*(v1*B+v2)*P+t*P:=by
  rw[Nat.add_mul,Nat.mul_add,Nat.one_mul,←Nat.mul_assoc]
 have h5:t*P<B*P:=Nat.mul_lt_mul_of_pos_right hb h.pos;have h6:1*(B*P)≤v1*(B*P):=Nat.mul_le_mul_right _ (by have:=h.norm;omega);have h7:=h.vlo;rw[Nat.add_mul,Nat.mul_assoc] at h7;have:=h.lo;omega
theorem Kn.far {B P top u2 v1 v2 U V t r:Nat} (h:Kn B P top u2 v1 v2 U V) (hr:B≤r) (hb:t<B):t*v2≤r*B+u2:=by
 have h1:t*v2≤B*B:=Nat.mul_le_mul (Nat.le_of_lt hb) (Nat.le_of_lt h.v2lt);have h2:B*B≤r*B:=Nat.mul_le_mul_right _ hr;omega
def xO (top v1 U V t r:Nat):Prop:=top=t*v1+r∧U<(t+1)*V
theorem Kn.start {B P top u2 v1 v2 U V:Nat} (h:Kn B P top u2 v1 v2 U V):xO top v1 U V (top/v1) (top%v1):=by
 have hv:0<v1:=by have:=h.norm;have:=h.v2lt;omega
 have h0:=Nat.div_add_mod top v1;have hm:=Nat.mod_lt top hv;refine⟨by rw[Nat.mul_comm];exact h0.symm,?_⟩;generalize top/v1=t at *
 have h1:top+1≤(t+1)*v1:=by rw[Nat.add_mul,Nat.mul_comm t v1];omega
 have h2:(top+1)*B≤(t+1)*v1*B:=Nat.mul_le_mul_right _ h1
 have h3:top*B+u2+1≤(t+1)*v1*B:=by have:=h.u2lt;rw[Nat.add_mul] at h2;omega
 have h4:(top*B+u2+1)*P≤(t+1)*v1*B*P:=Nat.mul_le_mul_right _ h3;have h5:(t+1)*((v1*B+v2)*P)≤(t+1)*V:=Nat.mul_le_mul_left _ h.vlo
 have h6:(t+1)*v1*B*P≤(t+1)*((v1*B+v2)*P):=by
  rw[Nat.mul_assoc,Nat.mul_assoc,←Nat.mul_assoc v1 B P];exact Nat.mul_le_mul_left _ (Nat.mul_le_mul_right _ (Nat.le_add_right _ _))
 have:=h.hi;omega
theorem Kn.down {B P top u2 v1 v2 U V t r:Nat} (h:Kn B P top u2 v1 v2 U V) (hI:xO top v1 U V t r) (ht:B≤t∨r*B+u2<t*v2):∃t',t=t'+1∧xO top v1 U V t' (r+v1):=by
 have h1:U<t*V:=by
  rcases ht with ht | ht
  ·exact Nat.lt_of_lt_of_le h.lt (Nat.mul_le_mul_right _ ht)
  ·exact h.over hI.1 ht
 cases t with
 | zero=>rw[Nat.zero_mul] at h1;omega
 | succ t'=>
  refine⟨t',rfl,?_,h1⟩;have:=hI.1;rw[Nat.add_mul] at this;omega
def yo (B U V t:Nat):Prop:=t<B∧t*V<U+V∧U<(t+1)*V
theorem Kn.exit {B P top u2 v1 v2 U V t r:Nat} (h:Kn B P top u2 v1 v2 U V) (hI:xO top v1 U V t r) (hb:t<B) (ht:t*v2≤r*B+u2):yo B U V t:=
 ⟨hb,h.good hI.1 ht hb,hI.2⟩
theorem Kn.exit_far {B P top u2 v1 v2 U V t r:Nat} (h:Kn B P top u2 v1 v2 U V) (hI:xO top v1 U V (t+1) r) (hI2:xO top v1 U V t (r+v1)) (hr:B≤r+v1):yo B U V t:=by
 have hb:t<B:=by
  rcases Nat.lt_or_ge t B with h1 | h1
  ·exact h1
  ·have:=h.third hI.1 (by omega);omega
 exact h.exit hI2 hb (h.far hr hb)
theorem Np {us vs:List Nat} {j m:Nat} (hu:jG us) (hv:jG vs) (hl:vs.length=m+2) (hul:j+m+2<us.length) (hz:jb (us.drop (j+m+3))=0)
  (hlt:jb (us.drop j)<B9*jb vs) (hn:B9≤2*vs[m+1]?.getD 0):
  Kn B9 (B9^m) (us[j+m+2]?.getD 0*B9+us[j+m+1]?.getD 0) (us[j+m]?.getD 0) (vs[m+1]?.getD 0) (vs[m]?.getD 0) (jb (us.drop j)) (jb vs):=by
 have e1:jb (us.drop j)=jb ((us.drop j).take m)+B9^m*((us[j+m+2]?.getD 0*B9+us[j+m+1]?.getD 0)*B9+us[j+m]?.getD 0):=by
  rw[xS (us.drop j) m (by rw[List.length_drop];omega),List.drop_drop,x9 us (j+m) (by omega),x9 us (j+m+1) (by omega),x9 us (j+m+1+1) (by omega),show j+m+1+1+1=j+m+3 from rfl,hz]
  congr 2
  show us[j+m]?.getD 0+B9*(us[j+m+1]?.getD 0+B9*(us[j+m+2]?.getD 0+B9*0))=_
  generalize us[j+m]?.getD 0=a;generalize us[j+m+1]?.getD 0=b;generalize us[j+m+2]?.getD 0=c;unfold B9;omega
 have e2:jb vs=jb (vs.take m)+B9^m*(vs[m+1]?.getD 0*B9+vs[m]?.getD 0):=by
  rw[xS vs m (by omega),x9 vs m (by omega),x9 vs (m+1) (by omega),List.drop_of_length_le (by omega)]
  congr 2
  simp only[jb];generalize vs[m]?.getD 0=a;generalize vs[m+1]?.getD 0=b;unfold B9;omega
 have b1:=qz (zU (ws:=us.drop j) (fun x hx=>hu x (List.mem_of_mem_drop hx)) m);have b2:=qz (zU hv m);have p1:B9^((us.drop j).take m).length≤B9^m:=Nat.pow_le_pow_right (by decide) (by rw[List.length_take];omega);have p2:B9^(vs.take m).length≤B9^m:=Nat.pow_le_pow_right (by decide) (by rw[List.length_take];omega);have q1:=kI hu (j+m);have q2:=kI hv m
 obtain⟨X,hX⟩:∃X,(us[j+m+2]?.getD 0*B9+us[j+m+1]?.getD 0)*B9+us[j+m]?.getD 0=X:=⟨_,rfl⟩
 obtain⟨Y,hY⟩:∃Y,vs[m+1]?.getD 0*B9+vs[m]?.getD 0=Y:=⟨_,rfl⟩
 rw[hX] at e1;rw[hY] at e2;refine⟨?_,?_,?_,?_,q2,q1,hlt,hn⟩
 ·rw[hX,e1,Nat.mul_comm];omega
 ·rw[hX,e1,Nat.mul_comm (X+1),Nat.mul_add,Nat.mul_one];omega
 ·rw[hY,e2,Nat.mul_comm];omega
 ·rw[hY,e2,Nat.mul_comm (Y+1),Nat.mul_add,Nat.mul_one];omega
def xl (vs L0 L:List Nat) (t j k br:Nat):Prop:=L.length=L0.length∧jG L∧L.take j=L0.take j∧L.drop (j+vs.length)=L0.drop (j+vs.length)∧br<B9 ∧
 jb L+B9^j*(jb (vs.take k)*t)=jb L0+B9^(j+k)*br
theorem xl.start {vs L0:List Nat} (t j:Nat) (h:jG L0):xl vs L0 L0 t j 0 0:=⟨rfl,h,rfl,rfl,by decide,by simp[jb]⟩
theorem xl.step {vs L0 L:List Nat} {t j k br d br':Nat} (h:xl vs L0 L t j k br) (hk:k<vs.length) (hlen:j+vs.length≤L0.length) (hd:d<B9) (hb:br'<B9)
  (he:d+vs[k]?.getD 0*t+br=L[j+k]?.getD 0+B9*br'):xl vs L0 (L.set (j+k) d) t j (k+1) br':=by
 obtain⟨h1,h2,h3,h4,h5,h6⟩:=h;refine⟨by simp[h1],zT h2 _ _ hd,by rw[JJ _ _ _ _ (by omega)];exact h3,by rw[List.drop_set_of_lt (by omega)];exact h4,hb,?_⟩;have hs:=QM L (j+k) d (by omega);rw[QP vs,show j+(k+1)=(j+k)+1 from by omega,Nat.pow_succ]
 have e:B9^(j+k)*(d+vs[k]?.getD 0*t+br)=B9^(j+k)*(L[j+k]?.getD 0+B9*br'):=by rw[he]
 have e2:B9^j*(B9^k*vs[k]?.getD 0*t)=B9^(j+k)*(vs[k]?.getD 0*t):=by rw[Nat.pow_add,Nat.mul_assoc,Nat.mul_assoc]
 simp only[Nat.mul_add,Nat.add_mul,e2] at e hs h6 ⊢;rw[Nat.mul_assoc (B9^(j+k)) B9 br'];omega
theorem CR (z v t br:Nat) (hz:z<B9) (hv:v<B9) (ht:t<B9) (hb:br<B9):v*t+br<1000000000000000000 ∧
  (((v*t+br)%B9≤z→(v*t+br)/B9<B9∧z-(v*t+br)%B9<B9∧(z-(v*t+br)%B9)+v*t+br=z+B9*((v*t+br)/B9)) ∧
  (z<(v*t+br)%B9→(v*t+br)/B9+1<B9∧z+B9-(v*t+br)%B9<B9∧(z+B9-(v*t+br)%B9)+v*t+br=z+B9*((v*t+br)/B9+1))):=by
 have h1:v*t≤(B9-1)*(B9-1):=Nat.mul_le_mul (by omega) (by omega);generalize v*t=p at *;unfold B9 at *;omega
