/- Contract: the null space over the rational numbers. -/
import Derived.Test.YteagkgagdelklaaGreatDoorZT37
import Derived.Test.YteagkgagdelklaaGreatDoorZT20
import Derived.Test.YteagkgagdelklaaGreatDoorZT21
set_option maxRecDepth 100000
set_option maxHeartbeats 4000000
namespace Go.Proofs.YteagkgagdelklaaGreatDoor
open Go.RowKit Go.Lib
attribute [local go_sem ↓] Go.wp_at_zero Go.wp_at_succ
def zw (w:World) (base:Nat) (v:Value) (B:List (Nat×List Rat)) (n:Nat):Prop:=
 w.ownsRow base 72 1 v B.length (B.map fun r=>Value.slice (some ⟨r.1,0,none⟩) n n)∧kw w kx v ∧ ∀r∈B,base≤r.1∧(∃es,jq w r.1 es r.2)∧r.2.length=n
def Cx (n g:Nat) (R:List js) (w:World) (e:Ending) (w':World):Prop:=
 ∃v B,e = .returned v∧B.map (·.2)=nsBasis jc 0 1 n (jy jc n R.length 0 ⟨km List.reverse R R.length,[],[],false⟩) n∧zw w' w.heap.size v B n∧jO (g::R.map (·.1)) w w'
def xm (S:jw Rat):Prop:=∀r∈S.rows,∀x∈r.2.2,kI x
theorem Ww:(Tryz.prog.info? 72).map (fun i=>(i.zero,i.size,i.bytes))=some (some (.slice none 0 0),1,24):=by kernel_rfl
theorem Yd (w:World):Calls Tryz.prog 251 #[.agg #[],.int .i64 0] w (qR 0 w):=by simpa using Uy 0 w (by omega) (by omega)
theorem GJ (w:World):Calls Tryz.prog 251 #[.agg #[],.int .i64 1] w (qR 1 w):=by simpa using Uy 1 w (by omega) (by omega)
theorem yf.zero {y:Rat} (h:kI y):yf 0 y:=⟨⟨.small (by decide),.small (by decide)⟩,h,by simpa using h.1⟩
theorem UY:∀u∈(Value.slice none 0 0).cells.toList,kx u:=by
 intro u hu;simp[Value.cells] at hu;subst hu;exact(jr _ _ _).noU
theorem ZW (A:Option Addr) (n c:Nat):∀u∈[Value.slice A n c],kx u:=by
 intro u hu;simp at hu;subst hu;exact(jr _ _ _).noU
theorem zw.below {w w':World} {base n:Nat} {v:Value} {B:List (Nat×List Rat)} (h:zw w base v B n) (hb:Below w.heap.size w w'):zw w' base v B n:=
 ⟨kD h.1 hb,xe h.2.1 h.1 hb,fun r hr=>⟨(h.2.2 r hr).1,by obtain⟨es,he⟩:=(h.2.2 r hr).2.1;exact⟨es,he.below hb⟩,(h.2.2 r hr).2.2⟩⟩
theorem zw.snoc {w w':World} {base n:Nat} {v v':Value} {B:List (Nat×List Rat)} {gl:Nat} {L:List Rat} (h:zw w base v B n) (hg:w.grownBy w' v.ownBlock) (hown:w'.ownsRow base 72 1 v' (B.length+1) (B.map (fun r=>Value.slice (some ⟨r.1,0,none⟩) n n)++[.slice (some ⟨gl,0,none⟩) n n]))
  (hall:kw w' kx v') (hO:∃es,jq w gl es L) (hgl:base≤gl) (hl:L.length=n):zw w' base v' (B++[(gl,L)]) n:=by
 have hK:=kv.grown hg h.1 h.2.1
 have hk:∀(k:Nat) (es:List El) (q:List Rat),jq w k es q→jq w' k es q:=fun k es q hq=>hq.keeps hK (hg.block k hq.own.lt (fun e=>Uc hq.own h.1 (by decide) e.symm))
 refine⟨by rw[QaQ,Qaf];exact hown,hall,fun r hr=> ?_⟩;rcases List.mem_append.1 hr with hr | hr
 ·have:=h.2.2 r hr
  obtain⟨es,he⟩:=this.2.1;exact⟨this.1,⟨es,hk _ _ _ he⟩,this.2.2⟩
 ·obtain rfl:=List.mem_singleton.1 hr
  obtain⟨es,he⟩:=hO;exact⟨hgl,⟨es,hk _ _ _ he⟩,hl⟩
theorem Cz (g c n:Nat) (R:List js) (w:World) (hM:j5 w g R n) (hc:R.length≤c) (hc2:c≤1000000) (hn:n≤1000000) (h0:R=[]→n=0)
  (hok:qU n R.length 0 ⟨km List.reverse R R.length,[],[],false⟩) (hfin:xm (jy jc n R.length 0 ⟨km List.reverse R R.length,[],[],false⟩)):
  Calls Tryz.prog 39 #[.iface 77 (.agg #[]),.slice (some ⟨g,0,none⟩) R.length c] w (Cx n g R w):=by
 have HM:=hid hM;have H0:=hid h0;have HOK:=hid hok;have HFIN:=hid hfin;clear hM h0 hok hfin;go_enter Tryz.func39,Tryz.ntmps39
 go_wp2_with fail
 go_loopg [16] R.length (fun gh i wr=>∃k:Nat,i = .int .i64 k∧k+gh=R.length∧Hid (j5 wr g (km List.reverse R k) n)∧Hid (jO (g::R.map (·.1)) w wr))
 case atStart=>exact⟨0,rfl,by omega,hid (by rw[X8];exact HM.out),hid (jO.refl _ _)⟩
 case round=>
  obtain⟨k,rfl,hk,hMk,hB⟩:=hrel
  cases gk with
  | succ gh=>
   have hlt:k<R.length:=by omega
   have hlt':(k:Int)<(R.length:Int):=by omega
   obtain⟨r,hr⟩:∃r,R[k]? =some r:=⟨R[k],Qaa hlt⟩
   have hr':=(X6 (f:=List.reverse) (R:=R) k).trans hr;have hck:=hMk.out.cellRow hr';have hgl:=hMk.out.own.lt;obtain⟨⟨es,hro⟩,hrl,hrc1,hrc2⟩:=hMk.out.row _ (Qab hr');have RV:=hid (MS wr r.1 n r.2.1 es r.2.2 hro hrl.symm hrc1 hrc2);have Hk:=hid hk;have Hrb:Hid (r.1∈g::R.map (·.1)):=hid (QbU _ (Qa1 (Qab hr)));have Hst:=hid (ZM (f:=List.reverse) hr);have Hr:=hid hr';have Hrl:=hid hrl;clear hk hr hr' hro hrl;obtain⟨kb,kc,kl⟩:=r;unfold jV at hck;dsimp only at hck hrc1 hrc2
   go_wp2_with fail
   refine RV.out.mono ?_;clear RV;rintro e w1 ⟨rfl,hO1,hB1⟩
   have HM1:Hid (j5 w1 g (km List.reverse R (k+1)) n):=hid (by
    rw[←Hst.out]
    exact hMk.out.setRow Hr.out hO1 (by rw[QbD];exact Hrl.out) hB1)
   have HB1:Hid (jO (g::R.map (·.1)) w w1):=hid (hB.out.but hB1 Hrb.out);clear hMk hB hO1 hB1 hck
   go_wp2
   go_roundg gh
   case rel=>exact⟨k+1,by go_num,by have:=Hk.out;omega,HM1,HB1⟩
   case measure=>omega
  | zero=>
   have hkR:k=R.length:=by omega
   have hin:¬((k:Int)<(R.length:Int)):=by omega
   rw[hkR] at hMk;clear hk hkR;generalize hQe:km List.reverse R R.length=Q at *;have HQl:Hid (Q.length=R.length):=hid (by rw[←hQe];exact Qz _);have HQb:Hid (Q.map (·.1)=R.map (·.1)):=hid (by rw[←hQe];exact Gf _);have HQ:=hid hQe;clear hQe
   have WD:Hid (Calls Tryz.prog 64 #[.slice (some ⟨g,0,none⟩) R.length c] wr fun e w'=>e = .returned (.int .i64 (n:Int))∧wr=w'):=hid (by
    have h:=Q6 g c n Q wr hMk.out;rw[HQl.out] at h;by_cases hR:R=[]
    ·have h1:=H0.out hR
     have:Q=[]:=List.length_eq_zero_iff.1 (by rw[HQl.out,hR];rfl);rw[if_pos this] at h;rw[h1];exact h
    ·have:Q≠[]:=fun e=>hR (List.length_eq_zero_iff.1 (by rw[←HQl.out,e];rfl))
     rw[if_neg this] at h
     exact h)
   have EL:Hid (Calls Tryz.prog 38 #[.iface 77 (.agg #[]),.slice (some ⟨g,0,none⟩) R.length c] wr (XM n g c Q wr)):=hid (by
    have h:=Qs g c n Q wr hMk.out (by rw[HQl.out];exact hc) hc2 hn (by rw[HQl.out];exact HOK.out);rw[HQl.out] at h
    exact h)
   go_wp2_with (first | (go_at_call 64;refine WD.out.mono ?_;rintro e w' ⟨rfl,rfl⟩) | (go_at_call 38;refine EL.out.mono ?_;rintro e w1 ⟨S,hS,cv,pv,rfl,hM1,hcv,hpv,hl1,hl2,hl3,hpm,hbs⟩;obtain⟨A1,k1,rfl,_,_⟩:=jX hcv;obtain⟨A2,k2,rfl,_,_⟩:=hpv.form;have HS:=hid hS;have HM1:=hid hM1;have Hcv:=hid hcv;have Hl1:=hid hl1;have Hl2:=hid hl2;have Hl3:=hid hl3;have HPM:=hid hpm;have Hbs:=hid hbs;clear hS hM1 hcv hpv hl1 hl2 hl3 hpm hbs))
   obtain⟨W0,hW0⟩:∃W0,W0=w1.alloc (.cells #[.slice (some ⟨g,0,none⟩) S.piv.length c,.slice A1 S.cols.length k1,.slice A2 S.piv.length k2,.bool S.odd] 74):=⟨_,rfl⟩
   have hX:Hid (ja W0 w1.heap.size 74 [.slice (some ⟨g,0,none⟩) S.piv.length c,.slice A1 S.cols.length k1,.slice A2 S.piv.length k2,.bool S.odd]):=hid (by rw[hW0];exact ja.make _ _ _)
   have ha:Below w1.heap.size w1 W0:=by rw[hW0];exact(Below.refl _ _).alloc (Nat.le_refl _) _
   have hsz0:W0.heap.size=w1.heap.size+1:=by rw[hW0];simp
   have HM2:=hid (HM1.out.below ha);have Hcv2:=hid (kD Hcv.out ha)
   have HbW:Hid (jO (g::R.map (·.1)) w W0):=hid (by
    have:=Hbs.out;rw[HQb.out] at this
    exact(hB.out.trans this).below ha)
   have Hsz:Hid (W0.heap.size=w1.heap.size+1):=hid hsz0;have Hww:Hid (w.heap.size≤w1.heap.size):=hid (by have h2:=(hB.out.trans (HQb.out ▸ Hbs.out)).size;exact h2);have Hcl:Hid (∀c∈S.cols,c<n):=hid (by rw[HS.out];exact Zm _ _ _ (by omega) (by simp));have HFit:Hid (xm S):=hid (by rw[HS.out,HQl.out];exact HFIN.out);have HSS:Hid (S=jy jc n R.length 0 ⟨km List.reverse R R.length,[],[],false⟩):=hid (by rw[HQ.out,←HQl.out];exact HS.out);rw[←hW0]
   have hpl:S.piv.length≤R.length:=by have:=Hl2.out;have:=Hl3.out;have:=HQl.out;omega
   have Hpc:=Hl1;clear ha hsz0 hW0 HM1 Hcv WD EL hB Hbs HPM HQb hMk HS HQ HFIN HOK;obtain⟨i0,hi0,hz0,hz1,hz2⟩:=info_parts Ww;have hofm:=Uj
   go_loopg [9,10] n (fun gh b cl wr=>∃(k:Nat) (B:List (Nat×List Rat)),cl = .int .i64 ((n:Int)-1-k)∧k+gh=n∧Hid (B.map (·.2)=nsBasis jc 0 1 n S k)∧B.length≤k∧Hid (zw wr (w1.heap.size+1) b B n)∧Hid (Below (w1.heap.size+1) W0 wr))
   case atStart=>exact⟨0,[],by go_num,by omega,hid rfl,by simp,hid ⟨World.ownsRow_nil _ _ _ _,kw.nil _ _,by simp⟩,hid (Below.refl _ _)⟩
   case round=>
    obtain⟨k,B,rfl,hk,hBe,hBl,hT,hW⟩:=hrel
    cases gk with
    | zero=>
     have hin2:¬((0:Int)≤(n:Int)-1-k):=by omega
     go_wp2
     go_ret
     have hkn:k=n:=by omega
     have hT':=hT.out;refine⟨_,B,rfl,?_,⟨zJ hT'.1 (by have:=Hww.out;omega),hT'.2.1,fun r hr=>⟨by have:=(hT'.2.2 r hr).1;have:=Hww.out;omega,(hT'.2.2 r hr).2⟩⟩,HbW.out.below (hW.out.mono (by rw[Hsz.out];exact Nat.le_refl _))⟩;rw[←HSS.out,hBe.out,hkn]
    | succ gh=>
     have hcol:(n:Int)-1-k=((n-1-k:Nat):Int):=by omega
     have hcn:n-1-k<n:=by omega
     rw[hcol];have Hst:Hid (nsBasis jc 0 1 n S (k+1)=nsBasis jc 0 1 n S k++(if S.cols.contains (n-1-k)=true then [] else [x8 jc 0 1 n S (n-1-k)])):=hid rfl;have Hnext:Hid ((n:Int)-1-((k+1:Nat):Int)=((n-1-k:Nat):Int)-1):=hid (by omega);have Hk:=hid hk;clear hcol hk;generalize n-1-k=col at *;have CN:=hid (VF _ _ S.cols col wr (xt Hcv2.out fun j hj _=>hW.out.block j (by have:=Hsz.out;omega)) (by have:=Hpc.out;omega));have hX2:=hX.out.below hW.out (Nat.lt_succ_self _);obtain⟨x0,x1,x2,x3,y0,y1,y2,y3⟩:=hX2.four;by_cases hct:S.cols.contains col=true
     ·have Hct:=hid hct
      clear hct
      go_wp2_with fail
      refine CN.out.mono ?_;rintro e w2 ⟨rfl,rfl⟩;rw[Hct.out]
      go_wp2
      go_roundg gh
      case rel=>exact⟨k+1,B,by rw[Hnext.out],by have:=Hk.out;omega,hid (by rw[Hst.out,if_pos Hct.out,Qbg];exact hBe.out),by omega,hT,hW⟩
      case measure=>omega
     ·have Hct:Hid (S.cols.contains col=false):=hid (by simpa using hct)
      clear hct
      go_wp2_with fail
      refine CN.out.mono ?_;rintro e w2 ⟨rfl,rfl⟩;rw[Hct.out];clear CN hX2 x0 x1 x2 x3 y0 y1 y2 y3
      go_wp2_with fail
      refine(Yd _).mono ?_;rintro e w2 ⟨zv,rfl,hzv,hB2⟩;obtain⟨zs,Z1,zn1,zc1,Z2,zn2,zc2,rfl⟩:=hzv.shape;have HF:=hid (Wj _ 0 _ n hn hzv);clear hzv
      go_wp2_with fail
      refine HF.out.mono ?_;rintro e w3 ⟨gl,es3,rfl,hgl,hO3,hB3⟩;have hgl3:=hO3.own.lt;have hglr:wr.heap.size≤gl:=Qap hB2.size hgl;have HB3:=hid (hB2.trans (hB3.mono hB2.size));have HO3:=hid hO3;clear hB2 hB3 hgl hO3 HF
      go_wp2_with fail
      refine(GJ _).mono ?_;rintro e w4 ⟨ov,rfl,hov,hB4⟩;obtain⟨os,O1,on1,oc1,O2,on2,oc2,rfl⟩:=hov.shape;have hO4:=HO3.out.below hB4;obtain⟨e4,E1,en1,ec1,E2,en2,ec2,zz0,he4,zz1,c0,c1,c2,f0,f1,f2⟩:=hO4.at_ (j:=col) (by simp;exact hcn);clear zz0 zz1;obtain⟨e40,e4a,e4b⟩:=e4
      have he4':e4a = .slice E1 en1 ec1∧e4b = .slice E2 en2 ec2:=by simpa using he4
      obtain⟨rfl,rfl⟩:=he4';clear he4;dsimp only at c0;have hgl4:=hO4.own.lt;have hl4:Hid (∃es',jq (((w4.setCell ⟨gl,col*3,none⟩ (.bool os)).setCell ⟨gl,col*3+1,none⟩ (.slice O1 on1 oc1)).setCell ⟨gl,col*3+2,none⟩ (.slice O2 on2 oc2)) gl es' (nsSet jc 0 S col 0 ((List.replicate n 0).set col 1))):=hid ⟨_,hO4.put (j:=col) (e:=(os,.slice O1 on1 oc1,.slice O2 on2 oc2)) (q:=1) (by simp;exact hcn) hov⟩;have hW4:Hid (Below wr.heap.size wr (((w4.setCell ⟨gl,col*3,none⟩ (.bool os)).setCell ⟨gl,col*3+1,none⟩ (.slice O1 on1 oc1)).setCell ⟨gl,col*3+2,none⟩ (.slice O2 on2 oc2))):=hid ((((HB3.out.trans (hB4.mono HB3.out.size)).setCell hglr _).setCell hglr _).setCell hglr _);have HX2:=hid (hX.out.below hW.out (Nat.lt_succ_self _));obtain⟨x0,x1,x2,x3,y0,y1,y2,y3⟩:=(HX2.out.below hW4.out HX2.out.lt).four;have HLl:Hid (((List.replicate n (0:Rat)).set col 1).length=n):=hid (by simp);have HLe:Hid (x8 jc 0 1 n S col=(nsSet jc 0 S col S.cols.length ((List.replicate n 0).set col 1)).reverse):=hid rfl;generalize (List.replicate n (0:Rat)).set col 1=L0 at *;clear HB3 HO3 hB4 hov hO4
      go_upto_region 15 with fail
      obtain⟨w5,hw5⟩:∃w5,w5=((w4.setCell ⟨gl,col*3,none⟩ (.bool os)).setCell ⟨gl,col*3+1,none⟩ (.slice O1 on1 oc1)).setCell ⟨gl,col*3+2,none⟩ (.slice O2 on2 oc2):=⟨_,rfl⟩
      rw[←hw5] at hl4 hW4 x0 x1 x2 x3 y0 y1 y2 y3;rw[←hw5];clear hw5 c0 c1 c2 f0 f1 f2 hgl4
      go_wp2_with fail
      obtain⟨wb,rfl⟩:∃wb,wb=wr:=⟨_,rfl⟩
      go_loopg [50] S.piv.length (fun gh2 ix wx=>∃i:Nat,ix = .int .i64 i∧i+gh2=S.piv.length∧Hid (Below wb.heap.size wb wx)∧Hid (∃es',jq wx gl es' (nsSet jc 0 S col i L0)))
      case atStart=>exact⟨0,rfl,by omega,hW4,hl4⟩
      case round=>
       clear hl4 hW4 x0 x1 x2 x3 y0 y1 y2 y3;obtain⟨i,rfl,hi,hWx,hOx⟩:=hrel
       cases gk with
       | zero=>
        have hin3:¬((i:Int)<(S.piv.length:Int)):=by omega
        have hOr:Hid (∃es',jq wr gl es' (nsSet jc 0 S col S.cols.length L0)):=hid (by
         have:i=S.cols.length:=by have:=Hpc.out;omega
         rw[←this];exact hOx.out)
        obtain⟨esr,hOr2⟩:=hOr.out;have RV:=hid (MS wr gl n n esr _ hOr2 (by rw[yL,HLl.out]) (Nat.le_refl _) (by omega))
        have hBl2:B.length<n:=by have:=Hk.out;omega
        clear hOr2
        go_wp2_with fail
        refine RV.out.mono ?_;rintro e w6 ⟨rfl,hO6,hB6⟩;rw[←HLe.out] at hO6;have HO6:=hid hO6;have HB6:=hid (hWx.out.trans (hB6.toBelow hglr hWx.out.size));have HT6:=hid (hT.out.below HB6.out)
        have hs6:w1.heap.size+1≤w6.heap.size:=by have:=HB6.out.size;have:=hW.out.size;have:=Hsz.out;omega
        clear hO6 hB6 RV hOr hOx hWx;obtain⟨A9,k9,hbv,_,_⟩:=jX HT6.out.1;subst hbv;have hal:Hid (∀o:Obj,Below w6.heap.size w6 (w6.alloc o)):=hid (fun o=>(Below.refl _ _).alloc (Nat.le_refl _) _)
        go_wp2_with (at_builtin;(refine Qa _ rfl _ _ 63 rfl (w1.heap.size+1) 72 i0 (.slice none 0 0) 1 24 Tryz.underlying63 hi0 hz0 hz1 hz2 rfl (by decide) _ _ _ rfl (HT6.out.1.alloc _) ⟨w6.heap.size,0,none⟩ 1 1 [.slice (some ⟨gl,0,none⟩) n n] rfl rfl (cell_one_new _ _ _) (fun x hx=>by simp at hx;subst hx;rfl) (by unfold maxLen;omega) (by omega) (by simp;omega) (by decide) kx (xe HT6.out.2.1 HT6.out.1 (hal.out _)) (ZW _ _ _) UY ?_;intro v7 w7 hown7 hgrow7 hall7))
        have HT7:=hid ((HT6.out.below (hal.out _)).snoc hgrow7 hown7 hall7 (by obtain⟨es',h⟩:=HO6.out;exact⟨es',h.below (hal.out _)⟩) (by have:=hW.out.size;have:=Hsz.out;omega) (by rw[HLe.out,QbD,yL,HLl.out]));have HW7:Hid (Below (w1.heap.size+1) W0 w7):=hid (Below.grown (((hW.out.trans (HB6.out.mono (by have:=hW.out.size;have:=Hsz.out;omega)))).alloc hs6 _) hgrow7 (by simp;omega) (fun j hj=>(HT6.out.1.lt j hj).1))
        go_roundg gh
        case rel=>exact⟨k+1,B++[(gl,x8 jc 0 1 n S col)],by rw[Hnext.out],by have:=Hk.out;omega,hid (by rw[Hst.out,if_neg (by rw[Hct.out];simp),QaQ,hBe.out];rfl),by simp;omega,HT7,HW7⟩
        case measure=>omega
       | succ gh2=>
        have hil:i<S.piv.length:=by omega
        have hil':(i:Int)<(S.piv.length:Int):=by omega
        obtain⟨r,hr⟩:∃r,S.rows[i]? =some r:=⟨S.rows[i]'(by have:=Hl2.out;omega),Qaa _⟩
        have hW0b:Below W0.heap.size W0 wb:=hW.out.mono (by rw[Hsz.out];exact Nat.le_refl _);have hMb:=HM2.out.below hW0b;have cc1:=hMb.cellRow hr;obtain⟨⟨esr,hrq⟩,hrl,hrc1,hrc2⟩:=hMb.row _ (Qab hr);obtain⟨er,R1,rn1,rc1,R2,rn2,rc2,zz0,her,hrt,d0,d1,d2,zz1,zz2,zz3⟩:=hrq.at_ (j:=col) (by rw[hrl];exact hcn);clear zz0 zz1 zz2 zz3;obtain⟨er0,era,erb⟩:=er
        have her':era = .slice R1 rn1 rc1∧erb = .slice R2 rn2 rc2:=by simpa using her
        obtain⟨rfl,rfl⟩:=her';clear her;unfold qk at hrt;dsimp only at d0 hrt;have hgb:g<wb.heap.size:=hMb.own.lt;have hrb:r.1<wb.heap.size:=hrq.own.lt;have hyF:=HFit.out r (Qab hr) (r.2.2[col]?.getD 0) (by rw[Qaa (by omega)];exact Qay (by omega));obtain⟨cb,hA,_,hcbl,hcc⟩:=Jf (kD Hcv2.out hW0b) (j:=i) (by have:=Hpc.out;omega)
        have c3:wb.cell? ⟨cb,i,none⟩=some (.int .i64 ((S.cols[i]?.getD 0:Nat):Int)):=(hcc i (by have:=Hpc.out;omega)).trans (by
         have:i<S.cols.length:=by have:=Hpc.out;omega
         simp[jm,this])
        have hci:S.cols[i]?.getD 0<n:=Hcl.out _ (by
         have:i<S.cols.length:=by have:=Hpc.out;omega
         rw[Qaa this];exact Qay this)
        have Hst2:Hid (nsSet jc 0 S col (i+1) L0=(nsSet jc 0 S col i L0).set (S.cols[i]?.getD 0) (0-r.2.2[col]?.getD 0)):=hid (by
         rw[Jd]
         congr 1
         show 0-jC jc S.rows i col=_
         unfold jC
         rw[qF hr];rfl)
        subst hA;obtain⟨rb,rc,rl⟩:=r;unfold jV at cc1;dsimp only at cc1 hrl hrc1 hrc2 hyF Hst2 hrb hrt d0 d1 d2;generalize rl[col]?.getD 0=y at *;generalize S.cols[i]?.getD 0=ci at *;have x1b:=HX2.out.four.2.1;have x0b:=HX2.out.four.1;have hXlb:=HX2.out.lt;obtain⟨esx,hOx1⟩:=hOx.out;obtain⟨t4,T1,tn1,tc1,T2,tn2,tc2,zz0,ht4,zz1,c40,c41,c42,f40,f41,f42⟩:=hOx1.at_ (j:=ci) (by rw[yL,HLl.out];exact hci);clear zz0 zz1;obtain⟨t40,t4a,t4b⟩:=t4
        have ht4':t4a = .slice T1 tn1 tc1∧t4b = .slice T2 tn2 tc2:=by simpa using ht4
        obtain⟨rfl,rfl⟩:=ht4';clear ht4;dsimp only at c40;have hgll:=hOx1.own.lt
        have hglL:gl≠rb∧gl≠cb:=by omega
        have Hrt:=hid (fun (x:World) (hb:Below wb.heap.size wb x)=>hrt.below hb);have HyF:=hid hyF;have HOx1:=hid hOx1;have Hr3:=hid (And.intro hrc1 hrc2)
        have KS:Hid (∀x,Below wb.heap.size wb x→x.cell? ⟨w1.heap.size,1,none⟩=some (.slice (some ⟨cb,0,none⟩) S.cols.length k1)∧x.cell? ⟨rb,col*3,none⟩=some (.bool er0)∧x.cell? ⟨rb,col*3+1,none⟩=some (.slice R1 rn1 rc1)∧x.cell? ⟨rb,col*3+2,none⟩=some (.slice R2 rn2 rc2)∧x.cell? ⟨cb,i,none⟩=some (.int .i64 (ci:Nat))∧Below wb.heap.size wb x):=hid (fun x hb=>
         ⟨(hb.cell (p:=⟨w1.heap.size,1,none⟩) hXlb).trans x1b,(hb.cell (p:=⟨rb,col*3,none⟩) hrb).trans d0,(hb.cell (p:=⟨rb,col*3+1,none⟩) hrb).trans d1,(hb.cell (p:=⟨rb,col*3+2,none⟩) hrb).trans d2,(hb.cell (p:=⟨cb,i,none⟩) hcbl).trans c3,hb⟩)
        have cc1r:=(hWx.out.cell (p:=⟨g,i,none⟩) hgb).trans cc1;have hgr:g<wr.heap.size:=Qac hgb hWx.out.size
        have hic:i<S.cols.length:=by have:=Hpc.out;omega
        have hic':(i:Int)<(S.cols.length:Int):=by omega
        have hci':(ci:Int)<(n:Int):=by omega
        have hcn':(col:Int)<(n:Int):=by omega
        clear hr hMb hcc x1b x0b hrl hW0b hrc1 hrc2 hyF hrq hrt cc1 d0 d1 d2 c3 hOx1 hOx;have hM:=H3;have hmn:=H5
        have hmf:∀(fn:Fn) (first cap:Array Value) (w:World),(Instr.makeFunc fn first cap).run Tryz.prog w = .ok (.func fn first cap) w:=fun _ _ _ _=>rfl
        have KT:=hid (fun (x x':World) (hb:Below x.heap.size x x') (h5:Below wb.heap.size wb x)=>KS.out x' (h5.trans (hb.mono h5.size)));have MN:=hid (fun (W:World) (u:Value) (h:Rt W u 0) (hb:Below wb.heap.size wb W)=>MZ u (.agg #[.bool er0,.slice R1 rn1 rc1,.slice R2 rn2 rc2]) 0 y W h (Hrt.out W hb) (yf.zero HyF.out))
        go_wp2_with fail
        go_region_held3 (fun w'=>w'.cell? ⟨w1.heap.size,1,none⟩=some (.slice (some ⟨cb,0,none⟩) S.cols.length k1)∧w'.cell? ⟨rb,col*3,none⟩=some (.bool er0)∧w'.cell? ⟨rb,col*3+1,none⟩=some (.slice R1 rn1 rc1)∧w'.cell? ⟨rb,col*3+2,none⟩=some (.slice R2 rn2 rc2)∧w'.cell? ⟨cb,i,none⟩=some (.int .i64 (ci:Nat))∧Below wb.heap.size wb w')
         (first | exact KS.out _ hWx.out.drew | exact KT.out _ _ (by assumption) (by assumption) | (go_split_ands;exact KS.out _ (((Below.setCell (by assumption) hglr _).setCell hglr _).setCell hglr _)))
         (first
          | (go_at_call 251;go_split_ands;refine(Yd _).mono ?_;rintro e w4 ⟨zv,rfl,hzv,hB4⟩;obtain⟨zs,Z1,zn1,zc1,Z2,zn2,zc2,rfl⟩:=hzv.shape;have a40:=(hB4.cell (p:=⟨gl,ci*3,none⟩) hgll).trans c40;have a41:=(hB4.cell (p:=⟨gl,ci*3+1,none⟩) hgll).trans c41;have a42:=(hB4.cell (p:=⟨gl,ci*3+2,none⟩) hgll).trans c42;have b40:=(hB4.frozen (p:=⟨gl,ci*3,none⟩) hgll).trans f40;have b41:=(hB4.frozen (p:=⟨gl,ci*3+1,none⟩) hgll).trans f41;have b42:=(hB4.frozen (p:=⟨gl,ci*3+2,none⟩) hgll).trans f42;have b4:gl<w4.heap.size:=Qac hgll hB4.size;have a6:=hid (HOx1.out.below (xJ hB4));have a7:=hid hzv;clear hzv)
          | (go_at_call 250;go_split_ands;refine(MN.out _ _ a7.out (by assumption)).mono ?_;rintro e w5 ⟨mv,rfl,hmv,hB5⟩;obtain⟨ms,M1,mn1,mc1,M2,mn2,mc2,rfl⟩:=hmv.shape;have d40:=(hB5.cell (p:=⟨gl,ci*3,none⟩) b4).trans a40;have d41:=(hB5.cell (p:=⟨gl,ci*3+1,none⟩) b4).trans a41;have d42:=(hB5.cell (p:=⟨gl,ci*3+2,none⟩) b4).trans a42;have e40:=(hB5.frozen (p:=⟨gl,ci*3,none⟩) b4).trans b40;have e41:=(hB5.frozen (p:=⟨gl,ci*3+1,none⟩) b4).trans b41;have e42:=(hB5.frozen (p:=⟨gl,ci*3+2,none⟩) b4).trans b42;have d6:=hid (a6.out.below hB5);have d7:=hid hmv;clear hmv))
        all_goals (
         have HW7:Hid (Below wb.heap.size wb (((w5.setCell ⟨gl,ci*3,none⟩ (.bool ms)).setCell ⟨gl,ci*3+1,none⟩ (.slice M1 mn1 mc1)).setCell ⟨gl,ci*3+2,none⟩ (.slice M2 mn2 mc2))):=hid (by go_split_ands;assumption)
         have HO7:Hid (∃es',jq (((w5.setCell ⟨gl,ci*3,none⟩ (.bool ms)).setCell ⟨gl,ci*3+1,none⟩ (.slice M1 mn1 mc1)).setCell ⟨gl,ci*3+2,none⟩ (.slice M2 mn2 mc2)) gl es' (nsSet jc 0 S col (i+1) L0)):=hid (by
          rw[Hst2.out]
          exact⟨_,d6.out.put (j:=ci) (e:=(ms,.slice M1 mn1 mc1,.slice M2 mn2 mc2)) (by rw[yL,HLl.out];omega) d7.out⟩)
         clear a40 a41 a42 b40 b41 b42 d40 d41 d42 e40 e41 e42 a6 a7 d6 d7 hB4 hB5 cc1r c40 c41 c42 f40 f41 f42 HOx1 hWx
         go_wp2
         go_roundg gh2
         case rel=>exact⟨i+1,by go_num,by omega,HW7,HO7⟩
         case measure=>omega)
