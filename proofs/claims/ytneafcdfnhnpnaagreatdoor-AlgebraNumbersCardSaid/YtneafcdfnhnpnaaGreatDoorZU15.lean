/- Contract: the null space over the rational numbers. -/
import Derived.Test.YtneafcdfnhnpnaaGreatDoorZU14
import Derived.Test.YtneafcdfnhnpnaaGreatDoorZU09
import Derived.Deep.RegionHeld3
import Derived.Deep.DeepCutAuto
import Derived.Deep.DrawnRows
import Derived.Test.YtneafcdfnhnpnaaGreatDoorZU13
import Derived.Test.YtneafcdfnhnpnaaGreatDoorZU10
import Derived.Test.YtneafcdfnhnpnaaGreatDoorZU11
import Derived.Test.YtneafcdfnhnpnaaGreatDoorZU05
set_option maxRecDepth 100000
set_option maxHeartbeats 4000000
namespace Go.Proofs.YtneafcdfnhnpnaaGreatDoor
open Go.RowKit Go.Lib
attribute [local go_sem ↓] Go.wp_at_zero Go.wp_at_succ
def TblQ (w:World) (base:Nat) (v:Value) (B:List (Nat×List Rat)) (n:Nat):Prop:=
 w.ownsRow base 167 1 v B.length (B.map fun r=>Value.slice (some ⟨r.1,0,none⟩) n n)∧AllIn w NoU v ∧ ∀r∈B,base≤r.1∧(∃es,RowQ w r.1 es r.2)∧r.2.length=n
def nullPostQ (n g:Nat) (R:List RowR) (w:World) (e:Ending) (w':World):Prop:=
 ∃v B,e = .returned v∧B.map (·.2)=nsBasis ratF 0 1 n (elGo ratF n R.length 0 ⟨mapTo List.reverse R R.length,[],[],false⟩) n∧TblQ w' w.heap.size v B n∧ButS (g::R.map (·.1)) w w'
def FinOk (S:ElS Rat):Prop:=∀r∈S.rows,∀x∈r.2.2,FitQ x
theorem info_slr:(Tryz.prog.info? 167).map (fun i=>(i.zero,i.size,i.bytes))=some (some (.slice none 0 0),1,24):=by kernel_rfl
theorem of0Q (w:World):Calls Tryz.prog 316 #[.agg #[],.int .i64 0] w (ratPost 0 w):=by simpa using rtOf_c 0 w (by omega) (by omega)
theorem of1Q (w:World):Calls Tryz.prog 316 #[.agg #[],.int .i64 1] w (ratPost 1 w):=by simpa using rtOf_c 1 w (by omega) (by omega)
theorem FitP.zero {y:Rat} (h:FitQ y):FitP 0 y:=⟨⟨.small (by decide),.small (by decide)⟩,h,by simpa using h.1⟩
theorem zero_sl:∀u∈(Value.slice none 0 0).cells.toList,NoU u:=by
 intro u hu
 simp[Value.cells] at hu
 subst hu
 exact(noInt_slice _ _ _).noU
theorem news_sl (A:Option Addr) (n c:Nat):∀u∈[Value.slice A n c],NoU u:=by
 intro u hu
 simp at hu
 subst hu
 exact(noInt_slice _ _ _).noU
theorem TblQ.below {w w':World} {base n:Nat} {v:Value} {B:List (Nat×List Rat)} (h:TblQ w base v B n) (hb:Below w.heap.size w w'):TblQ w' base v B n:=
 ⟨oBelow h.1 hb,cinBelow h.2.1 h.1 hb,fun r hr=>⟨(h.2.2 r hr).1,by obtain⟨es,he⟩:=(h.2.2 r hr).2.1;exact⟨es,he.below hb⟩,(h.2.2 r hr).2.2⟩⟩
theorem TblQ.snoc {w w':World} {base n:Nat} {v v':Value} {B:List (Nat×List Rat)} {gl:Nat} {L:List Rat} (h:TblQ w base v B n) (hg:w.grownBy w' v.ownBlock) (hown:w'.ownsRow base 167 1 v' (B.length+1) (B.map (fun r=>Value.slice (some ⟨r.1,0,none⟩) n n)++[.slice (some ⟨gl,0,none⟩) n n]))
  (hall:AllIn w' NoU v') (hO:∃es,RowQ w gl es L) (hgl:base≤gl) (hl:L.length=n):TblQ w' base v' (B++[(gl,L)]) n:=by
 have hK:=Keeps.grown hg h.1 h.2.1
 have hk:∀(k:Nat) (es:List El) (q:List Rat),RowQ w k es q→RowQ w' k es q:=fun k es q hq=>hq.keeps hK (hg.block k hq.own.lt (fun e=>own_ne hq.own h.1 (by decide) e.symm))
 refine⟨by rw[List.map_append,List.length_append];exact hown,hall,fun r hr=> ?_⟩
 rcases List.mem_append.1 hr with hr | hr
 ·have:=h.2.2 r hr
  obtain⟨es,he⟩:=this.2.1
  exact⟨this.1,⟨es,hk _ _ _ he⟩,this.2.2⟩
 ·obtain rfl:=List.mem_singleton.1 hr
  obtain⟨es,he⟩:=hO
  exact⟨hgl,⟨es,hk _ _ _ he⟩,hl⟩
theorem nullSpaceQ_c (g c n:Nat) (R:List RowR) (w:World) (hM:MxR w g R n) (hc:R.length≤c) (hc2:c≤1000000) (hn:n≤1000000) (h0:R=[]→n=0)
  (hok:ElOk n R.length 0 ⟨mapTo List.reverse R R.length,[],[],false⟩) (hfin:FinOk (elGo ratF n R.length 0 ⟨mapTo List.reverse R R.length,[],[],false⟩)):
  Calls Tryz.prog 148 #[.iface 172 (.agg #[]),.slice (some ⟨g,0,none⟩) R.length c] w (nullPostQ n g R w):=by
 have HM:=hid hM
 have H0:=hid h0
 have HOK:=hid hok
 have HFIN:=hid hfin
 clear hM h0 hok hfin
 go_enter Tryz.func148,Tryz.ntmps148
 go_wp2_with fail
 go_loopg [16] R.length (fun gh i wr=>∃k:Nat,i = .int .i64 k∧k+gh=R.length∧Hid (MxR wr g (mapTo List.reverse R k) n)∧Hid (ButS (g::R.map (·.1)) w wr))
 case atStart=>exact⟨0,rfl,by omega,hid (by rw[mapTo_zero];exact HM.out),hid (ButS.refl _ _)⟩
 case round=>
  obtain⟨k,rfl,hk,hMk,hB⟩:=hrel
  cases gk with
  | succ gh=>
   have hlt:k<R.length:=by omega
   have hlt':(k:Int)<(R.length:Int):=by omega
   obtain⟨r,hr⟩:∃r,R[k]? =some r:=⟨R[k],List.getElem?_eq_getElem hlt⟩
   have hr':=(mapTo_next (f:=List.reverse) (R:=R) k).trans hr
   have hck:=hMk.out.cellRow hr'
   have hgl:=hMk.out.own.lt
   obtain⟨⟨es,hro⟩,hrl,hrc1,hrc2⟩:=hMk.out.row _ (List.mem_of_getElem? hr')
   have RV:=hid (reverseQ_c wr r.1 n r.2.1 es r.2.2 hro hrl.symm hrc1 hrc2)
   have Hk:=hid hk
   have Hrb:Hid (r.1∈g::R.map (·.1)):=hid (List.mem_cons_of_mem _ (List.mem_map_of_mem (List.mem_of_getElem? hr)))
   have Hst:=hid (mapTo_succ (f:=List.reverse) hr)
   have Hr:=hid hr'
   have Hrl:=hid hrl
   clear hk hr hr' hro hrl
   obtain⟨kb,kc,kl⟩:=r
   unfold rowW at hck
   dsimp only at hck hrc1 hrc2
   go_wp2_with fail
   refine RV.out.mono ?_
   clear RV
   rintro e w1 ⟨rfl,hO1,hB1⟩
   have HM1:Hid (MxR w1 g (mapTo List.reverse R (k+1)) n):=hid (by
    rw[←Hst.out]
    exact hMk.out.setRow Hr.out hO1 (by rw[List.length_reverse];exact Hrl.out) hB1)
   have HB1:Hid (ButS (g::R.map (·.1)) w w1):=hid (hB.out.but hB1 Hrb.out)
   clear hMk hB hO1 hB1 hck
   go_wp2
   go_roundg gh
   case rel=>exact⟨k+1,by go_num,by have:=Hk.out;omega,HM1,HB1⟩
   case measure=>omega
  | zero=>
   have hkR:k=R.length:=by omega
   have hin:¬((k:Int)<(R.length:Int)):=by omega
   rw[hkR] at hMk
   clear hk hkR
   generalize hQe:mapTo List.reverse R R.length=Q at *
   have HQl:Hid (Q.length=R.length):=hid (by rw[←hQe];exact mapTo_length _)
   have HQb:Hid (Q.map (·.1)=R.map (·.1)):=hid (by rw[←hQe];exact mapTo_blocks _)
   have HQ:=hid hQe
   clear hQe
   have WD:Hid (Calls Tryz.prog 159 #[.slice (some ⟨g,0,none⟩) R.length c] wr fun e w'=>e = .returned (.int .i64 (n:Int))∧wr=w'):=hid (by
    have h:=widthR_c g c n Q wr hMk.out
    rw[HQl.out] at h
    by_cases hR:R=[]
    ·have h1:=H0.out hR
     have:Q=[]:=List.length_eq_zero_iff.1 (by rw[HQl.out,hR];rfl)
     rw[if_pos this] at h
     rw[h1];exact h
    ·have:Q≠[]:=fun e=>hR (List.length_eq_zero_iff.1 (by rw[←HQl.out,e];rfl))
     rw[if_neg this] at h
     exact h)
   have EL:Hid (Calls Tryz.prog 147 #[.iface 172 (.agg #[]),.slice (some ⟨g,0,none⟩) R.length c] wr (elimPostR n g c Q wr)):=hid (by
    have h:=eliminateR_c g c n Q wr hMk.out (by rw[HQl.out];exact hc) hc2 hn (by rw[HQl.out];exact HOK.out)
    rw[HQl.out] at h
    exact h)
   go_wp2_with (first | (go_at_call 159;refine WD.out.mono ?_;rintro e w' ⟨rfl,rfl⟩) | (go_at_call 147;refine EL.out.mono ?_;rintro e w1 ⟨S,hS,cv,pv,rfl,hM1,hcv,hpv,hl1,hl2,hl3,hpm,hbs⟩;obtain⟨A1,k1,rfl,_,_⟩:=oForm hcv;obtain⟨A2,k2,rfl,_,_⟩:=hpv.form;have HS:=hid hS;have HM1:=hid hM1;have Hcv:=hid hcv;have Hl1:=hid hl1;have Hl2:=hid hl2;have Hl3:=hid hl3;have HPM:=hid hpm;have Hbs:=hid hbs;clear hS hM1 hcv hpv hl1 hl2 hl3 hpm hbs))
   obtain⟨W0,hW0⟩:∃W0,W0=w1.alloc (.cells #[.slice (some ⟨g,0,none⟩) S.piv.length c,.slice A1 S.cols.length k1,.slice A2 S.piv.length k2,.bool S.odd] 169):=⟨_,rfl⟩
   have hX:Hid (Own W0 w1.heap.size 169 [.slice (some ⟨g,0,none⟩) S.piv.length c,.slice A1 S.cols.length k1,.slice A2 S.piv.length k2,.bool S.odd]):=hid (by rw[hW0];exact Own.make _ _ _)
   have ha:Below w1.heap.size w1 W0:=by rw[hW0];exact(Below.refl _ _).alloc (Nat.le_refl _) _
   have hsz0:W0.heap.size=w1.heap.size+1:=by rw[hW0];simp
   have HM2:=hid (HM1.out.below ha)
   have Hcv2:=hid (oBelow Hcv.out ha)
   have HbW:Hid (ButS (g::R.map (·.1)) w W0):=hid (by
    have:=Hbs.out
    rw[HQb.out] at this
    exact(hB.out.trans this).below ha)
   have Hsz:Hid (W0.heap.size=w1.heap.size+1):=hid hsz0
   have Hww:Hid (w.heap.size≤w1.heap.size):=hid (by have h2:=(hB.out.trans (HQb.out ▸ Hbs.out)).size;exact h2)
   have Hcl:Hid (∀c∈S.cols,c<n):=hid (by rw[HS.out];exact elGo_cols _ _ _ (by omega) (by simp))
   have HFit:Hid (FinOk S):=hid (by rw[HS.out,HQl.out];exact HFIN.out)
   have HSS:Hid (S=elGo ratF n R.length 0 ⟨mapTo List.reverse R R.length,[],[],false⟩):=hid (by rw[HQ.out,←HQl.out];exact HS.out)
   rw[←hW0]
   have hpl:S.piv.length≤R.length:=by have:=Hl2.out;have:=Hl3.out;have:=HQl.out;omega
   have Hpc:=Hl1
   clear ha hsz0 hW0 HM1 Hcv WD EL hB Hbs HPM HQb hMk HS HQ HFIN HOK
   obtain⟨i0,hi0,hz0,hz1,hz2⟩:=info_parts info_slr
   have hofm:=qOf_meth
   go_loopg [9,10] n (fun gh b cl wr=>∃(k:Nat) (B:List (Nat×List Rat)),cl = .int .i64 ((n:Int)-1-k)∧k+gh=n∧Hid (B.map (·.2)=nsBasis ratF 0 1 n S k)∧B.length≤k∧Hid (TblQ wr (w1.heap.size+1) b B n)∧Hid (Below (w1.heap.size+1) W0 wr))
   case atStart=>exact⟨0,[],by go_num,by omega,hid rfl,by simp,hid ⟨World.ownsRow_nil _ _ _ _,AllIn.nil _ _,by simp⟩,hid (Below.refl _ _)⟩
   case round=>
    obtain⟨k,B,rfl,hk,hBe,hBl,hT,hW⟩:=hrel
    cases gk with
    | zero=>
     have hin2:¬((0:Int)≤(n:Int)-1-k):=by omega
     go_wp2
     go_ret
     have hkn:k=n:=by omega
     have hT':=hT.out
     refine⟨_,B,rfl,?_,⟨oMono hT'.1 (by have:=Hww.out;omega),hT'.2.1,fun r hr=>⟨by have:=(hT'.2.2 r hr).1;have:=Hww.out;omega,(hT'.2.2 r hr).2⟩⟩,HbW.out.below (hW.out.mono (by rw[Hsz.out];exact Nat.le_refl _))⟩
     rw[←HSS.out,hBe.out,hkn]
    | succ gh=>
     have hcol:(n:Int)-1-k=((n-1-k:Nat):Int):=by omega
     have hcn:n-1-k<n:=by omega
     rw[hcol]
     have Hst:Hid (nsBasis ratF 0 1 n S (k+1)=nsBasis ratF 0 1 n S k++(if S.cols.contains (n-1-k)=true then [] else [nsList ratF 0 1 n S (n-1-k)])):=hid rfl
     have Hnext:Hid ((n:Int)-1-((k+1:Nat):Int)=((n-1-k:Nat):Int)-1):=hid (by omega)
     have Hk:=hid hk
     clear hcol hk
     generalize n-1-k=col at *
     have CN:=hid (contains_c _ _ S.cols col wr (oKeep Hcv2.out fun j hj _=>hW.out.block j (by have:=Hsz.out;omega)) (by have:=Hpc.out;omega))
     have hX2:=hX.out.below hW.out (Nat.lt_succ_self _)
     obtain⟨x0,x1,x2,x3,y0,y1,y2,y3⟩:=hX2.four
     by_cases hct:S.cols.contains col=true
     ·have Hct:=hid hct
      clear hct
      go_wp2_with fail
      refine CN.out.mono ?_
      rintro e w2 ⟨rfl,rfl⟩
      rw[Hct.out]
      go_wp2
      go_roundg gh
      case rel=>exact⟨k+1,B,by rw[Hnext.out],by have:=Hk.out;omega,hid (by rw[Hst.out,if_pos Hct.out,List.append_nil];exact hBe.out),by omega,hT,hW⟩
      case measure=>omega
     ·have Hct:Hid (S.cols.contains col=false):=hid (by simpa using hct)
      clear hct
      go_wp2_with fail
      refine CN.out.mono ?_
      rintro e w2 ⟨rfl,rfl⟩
      rw[Hct.out]
      clear CN hX2 x0 x1 x2 x3 y0 y1 y2 y3
      go_wp2_with fail
      refine(of0Q _).mono ?_
      rintro e w2 ⟨zv,rfl,hzv,hB2⟩
      obtain⟨zs,Z1,zn1,zc1,Z2,zn2,zc2,rfl⟩:=hzv.shape
      have HF:=hid (filledQ_c _ 0 _ n hn hzv)
      clear hzv
      go_wp2_with fail
      refine HF.out.mono ?_
      rintro e w3 ⟨gl,es3,rfl,hgl,hO3,hB3⟩
      have hgl3:=hO3.own.lt
      have hglr:wr.heap.size≤gl:=Nat.le_trans hB2.size hgl
      have HB3:=hid (hB2.trans (hB3.mono hB2.size))
      have HO3:=hid hO3
      clear hB2 hB3 hgl hO3 HF
      go_wp2_with fail
      refine(of1Q _).mono ?_
      rintro e w4 ⟨ov,rfl,hov,hB4⟩
      obtain⟨os,O1,on1,oc1,O2,on2,oc2,rfl⟩:=hov.shape
      have hO4:=HO3.out.below hB4
      obtain⟨e4,E1,en1,ec1,E2,en2,ec2,zz0,he4,zz1,c0,c1,c2,f0,f1,f2⟩:=hO4.at_ (j:=col) (by simp;exact hcn)
      clear zz0 zz1
      obtain⟨e40,e4a,e4b⟩:=e4
      have he4':e4a = .slice E1 en1 ec1∧e4b = .slice E2 en2 ec2:=by simpa using he4
      obtain⟨rfl,rfl⟩:=he4'
      clear he4
      dsimp only at c0
      have hgl4:=hO4.own.lt
      have hl4:Hid (∃es',RowQ (((w4.setCell ⟨gl,col*3,none⟩ (.bool os)).setCell ⟨gl,col*3+1,none⟩ (.slice O1 on1 oc1)).setCell ⟨gl,col*3+2,none⟩ (.slice O2 on2 oc2)) gl es' (nsSet ratF 0 S col 0 ((List.replicate n 0).set col 1))):=hid ⟨_,hO4.put (j:=col) (e:=(os,.slice O1 on1 oc1,.slice O2 on2 oc2)) (q:=1) (by simp;exact hcn) hov⟩
      have hW4:Hid (Below wr.heap.size wr (((w4.setCell ⟨gl,col*3,none⟩ (.bool os)).setCell ⟨gl,col*3+1,none⟩ (.slice O1 on1 oc1)).setCell ⟨gl,col*3+2,none⟩ (.slice O2 on2 oc2))):=hid ((((HB3.out.trans (hB4.mono HB3.out.size)).setCell hglr _).setCell hglr _).setCell hglr _)
      have HX2:=hid (hX.out.below hW.out (Nat.lt_succ_self _))
      obtain⟨x0,x1,x2,x3,y0,y1,y2,y3⟩:=(HX2.out.below hW4.out HX2.out.lt).four
      have HLl:Hid (((List.replicate n (0:Rat)).set col 1).length=n):=hid (by simp)
      have HLe:Hid (nsList ratF 0 1 n S col=(nsSet ratF 0 S col S.cols.length ((List.replicate n 0).set col 1)).reverse):=hid rfl
      generalize (List.replicate n (0:Rat)).set col 1=L0 at *
      clear HB3 HO3 hB4 hov hO4
      go_upto_region 15 with fail
      obtain⟨w5,hw5⟩:∃w5,w5=((w4.setCell ⟨gl,col*3,none⟩ (.bool os)).setCell ⟨gl,col*3+1,none⟩ (.slice O1 on1 oc1)).setCell ⟨gl,col*3+2,none⟩ (.slice O2 on2 oc2):=⟨_,rfl⟩
      rw[←hw5] at hl4 hW4 x0 x1 x2 x3 y0 y1 y2 y3
      rw[←hw5]
      clear hw5 c0 c1 c2 f0 f1 f2 hgl4
      go_wp2_with fail
      obtain⟨wb,rfl⟩:∃wb,wb=wr:=⟨_,rfl⟩
      go_loopg [50] S.piv.length (fun gh2 ix wx=>∃i:Nat,ix = .int .i64 i∧i+gh2=S.piv.length∧Hid (Below wb.heap.size wb wx)∧Hid (∃es',RowQ wx gl es' (nsSet ratF 0 S col i L0)))
      case atStart=>exact⟨0,rfl,by omega,hW4,hl4⟩
      case round=>
       clear hl4 hW4 x0 x1 x2 x3 y0 y1 y2 y3
       obtain⟨i,rfl,hi,hWx,hOx⟩:=hrel
       cases gk with
       | zero=>
        have hin3:¬((i:Int)<(S.piv.length:Int)):=by omega
        have hOr:Hid (∃es',RowQ wr gl es' (nsSet ratF 0 S col S.cols.length L0)):=hid (by
         have:i=S.cols.length:=by have:=Hpc.out;omega
         rw[←this];exact hOx.out)
        obtain⟨esr,hOr2⟩:=hOr.out
        have RV:=hid (reverseQ_c wr gl n n esr _ hOr2 (by rw[nsSet_length,HLl.out]) (Nat.le_refl _) (by omega))
        have hBl2:B.length<n:=by have:=Hk.out;omega
        clear hOr2
        go_wp2_with fail
        refine RV.out.mono ?_
        rintro e w6 ⟨rfl,hO6,hB6⟩
        rw[←HLe.out] at hO6
        have HO6:=hid hO6
        have HB6:=hid (hWx.out.trans (hB6.toBelow hglr hWx.out.size))
        have HT6:=hid (hT.out.below HB6.out)
        have hs6:w1.heap.size+1≤w6.heap.size:=by have:=HB6.out.size;have:=hW.out.size;have:=Hsz.out;omega
        clear hO6 hB6 RV hOr hOx hWx
        obtain⟨A9,k9,hbv,_,_⟩:=oForm HT6.out.1
        subst hbv
        have hal:Hid (∀o:Obj,Below w6.heap.size w6 (w6.alloc o)):=hid (fun o=>(Below.refl _ _).alloc (Nat.le_refl _) _)
        go_wp2_with (at_builtin;(refine wpList_append_all _ rfl _ _ 163 rfl (w1.heap.size+1) 167 i0 (.slice none 0 0) 1 24 Tryz.underlying163 hi0 hz0 hz1 hz2 rfl (by decide) _ _ _ rfl (HT6.out.1.alloc _) ⟨w6.heap.size,0,none⟩ 1 1 [.slice (some ⟨gl,0,none⟩) n n] rfl rfl (cell_one_new _ _ _) (fun x hx=>by simp at hx;subst hx;rfl) (by unfold maxLen;omega) (by omega) (by simp;omega) (by decide) NoU (cinBelow HT6.out.2.1 HT6.out.1 (hal.out _)) (news_sl _ _ _) zero_sl ?_;intro v7 w7 hown7 hgrow7 hall7))
        have HT7:=hid ((HT6.out.below (hal.out _)).snoc hgrow7 hown7 hall7 (by obtain⟨es',h⟩:=HO6.out;exact⟨es',h.below (hal.out _)⟩) (by have:=hW.out.size;have:=Hsz.out;omega) (by rw[HLe.out,List.length_reverse,nsSet_length,HLl.out]))
        have HW7:Hid (Below (w1.heap.size+1) W0 w7):=hid (Below.grown (((hW.out.trans (HB6.out.mono (by have:=hW.out.size;have:=Hsz.out;omega)))).alloc hs6 _) hgrow7 (by simp;omega) (fun j hj=>(HT6.out.1.lt j hj).1))
        go_roundg gh
        case rel=>exact⟨k+1,B++[(gl,nsList ratF 0 1 n S col)],by rw[Hnext.out],by have:=Hk.out;omega,hid (by rw[Hst.out,if_neg (by rw[Hct.out];simp),List.map_append,hBe.out];rfl),by simp;omega,HT7,HW7⟩
        case measure=>omega
       | succ gh2=>
        have hil:i<S.piv.length:=by omega
        have hil':(i:Int)<(S.piv.length:Int):=by omega
        obtain⟨r,hr⟩:∃r,S.rows[i]? =some r:=⟨S.rows[i]'(by have:=Hl2.out;omega),List.getElem?_eq_getElem _⟩
        have hW0b:Below W0.heap.size W0 wb:=hW.out.mono (by rw[Hsz.out];exact Nat.le_refl _)
        have hMb:=HM2.out.below hW0b
        have cc1:=hMb.cellRow hr
        obtain⟨⟨esr,hrq⟩,hrl,hrc1,hrc2⟩:=hMb.row _ (List.mem_of_getElem? hr)
        obtain⟨er,R1,rn1,rc1,R2,rn2,rc2,zz0,her,hrt,d0,d1,d2,zz1,zz2,zz3⟩:=hrq.at_ (j:=col) (by rw[hrl];exact hcn)
        clear zz0 zz1 zz2 zz3
        obtain⟨er0,era,erb⟩:=er
        have her':era = .slice R1 rn1 rc1∧erb = .slice R2 rn2 rc2:=by simpa using her
        obtain⟨rfl,rfl⟩:=her'
        clear her
        unfold elV at hrt
        dsimp only at d0 hrt
        have hgb:g<wb.heap.size:=hMb.own.lt
        have hrb:r.1<wb.heap.size:=hrq.own.lt
        have hyF:=HFit.out r (List.mem_of_getElem? hr) (r.2.2[col]?.getD 0) (by rw[List.getElem?_eq_getElem (by omega)];exact List.getElem_mem (by omega))
        obtain⟨cb,hA,_,hcbl,hcc⟩:=oCell (oBelow Hcv2.out hW0b) (j:=i) (by have:=Hpc.out;omega)
        have c3:wb.cell? ⟨cb,i,none⟩=some (.int .i64 ((S.cols[i]?.getD 0:Nat):Int)):=(hcc i (by have:=Hpc.out;omega)).trans (by
         have:i<S.cols.length:=by have:=Hpc.out;omega
         simp[ncells,this])
        have hci:S.cols[i]?.getD 0<n:=Hcl.out _ (by
         have:i<S.cols.length:=by have:=Hpc.out;omega
         rw[List.getElem?_eq_getElem this];exact List.getElem_mem this)
        have Hst2:Hid (nsSet ratF 0 S col (i+1) L0=(nsSet ratF 0 S col i L0).set (S.cols[i]?.getD 0) (0-r.2.2[col]?.getD 0)):=hid (by
         rw[nsSet_succ]
         congr 1
         show 0-numT ratF S.rows i col=_
         unfold numT
         rw[rowOf_eq hr];rfl)
        subst hA
        obtain⟨rb,rc,rl⟩:=r
        unfold rowW at cc1
        dsimp only at cc1 hrl hrc1 hrc2 hyF Hst2 hrb hrt d0 d1 d2
        generalize rl[col]?.getD 0=y at *
        generalize S.cols[i]?.getD 0=ci at *
        have x1b:=HX2.out.four.2.1
        have x0b:=HX2.out.four.1
        have hXlb:=HX2.out.lt
        obtain⟨esx,hOx1⟩:=hOx.out
        obtain⟨t4,T1,tn1,tc1,T2,tn2,tc2,zz0,ht4,zz1,c40,c41,c42,f40,f41,f42⟩:=hOx1.at_ (j:=ci) (by rw[nsSet_length,HLl.out];exact hci)
        clear zz0 zz1
        obtain⟨t40,t4a,t4b⟩:=t4
        have ht4':t4a = .slice T1 tn1 tc1∧t4b = .slice T2 tn2 tc2:=by simpa using ht4
        obtain⟨rfl,rfl⟩:=ht4'
        clear ht4
        dsimp only at c40
        have hgll:=hOx1.own.lt
        have hglL:gl≠rb∧gl≠cb:=by omega
        have Hrt:=hid (fun (x:World) (hb:Below wb.heap.size wb x)=>hrt.below hb)
        have HyF:=hid hyF
        have HOx1:=hid hOx1
        have Hr3:=hid (And.intro hrc1 hrc2)
        have KS:Hid (∀x,Below wb.heap.size wb x→x.cell? ⟨w1.heap.size,1,none⟩=some (.slice (some ⟨cb,0,none⟩) S.cols.length k1)∧x.cell? ⟨rb,col*3,none⟩=some (.bool er0)∧x.cell? ⟨rb,col*3+1,none⟩=some (.slice R1 rn1 rc1)∧x.cell? ⟨rb,col*3+2,none⟩=some (.slice R2 rn2 rc2)∧x.cell? ⟨cb,i,none⟩=some (.int .i64 (ci:Nat))∧Below wb.heap.size wb x):=hid (fun x hb=>
         ⟨(hb.cell (p:=⟨w1.heap.size,1,none⟩) hXlb).trans x1b,(hb.cell (p:=⟨rb,col*3,none⟩) hrb).trans d0,(hb.cell (p:=⟨rb,col*3+1,none⟩) hrb).trans d1,(hb.cell (p:=⟨rb,col*3+2,none⟩) hrb).trans d2,(hb.cell (p:=⟨cb,i,none⟩) hcbl).trans c3,hb⟩)
        have cc1r:=(hWx.out.cell (p:=⟨g,i,none⟩) hgb).trans cc1
        have hgr:g<wr.heap.size:=Nat.lt_of_lt_of_le hgb hWx.out.size
        have hic:i<S.cols.length:=by have:=Hpc.out;omega
        have hic':(i:Int)<(S.cols.length:Int):=by omega
        have hci':(ci:Int)<(n:Int):=by omega
        have hcn':(col:Int)<(n:Int):=by omega
        clear hr hMb hcc x1b x0b hrl hW0b hrc1 hrc2 hyF hrq hrt cc1 d0 d1 d2 c3 hOx1 hOx
        have hM:=qMinus_meth
        have hmn:=qMinus_nil
        have hmf:∀(fn:Fn) (first cap:Array Value) (w:World),(Instr.makeFunc fn first cap).run Tryz.prog w = .ok (.func fn first cap) w:=fun _ _ _ _=>rfl
        have KT:=hid (fun (x x':World) (hb:Below x.heap.size x x') (h5:Below wb.heap.size wb x)=>KS.out x' (h5.trans (hb.mono h5.size)))
        have MN:=hid (fun (W:World) (u:Value) (h:Rt W u 0) (hb:Below wb.heap.size wb W)=>rtMinus_c u (.agg #[.bool er0,.slice R1 rn1 rc1,.slice R2 rn2 rc2]) 0 y W h (Hrt.out W hb) (FitP.zero HyF.out))
        go_wp2_with fail
        go_region_held3 (fun w'=>w'.cell? ⟨w1.heap.size,1,none⟩=some (.slice (some ⟨cb,0,none⟩) S.cols.length k1)∧w'.cell? ⟨rb,col*3,none⟩=some (.bool er0)∧w'.cell? ⟨rb,col*3+1,none⟩=some (.slice R1 rn1 rc1)∧w'.cell? ⟨rb,col*3+2,none⟩=some (.slice R2 rn2 rc2)∧w'.cell? ⟨cb,i,none⟩=some (.int .i64 (ci:Nat))∧Below wb.heap.size wb w')
         (first | exact KS.out _ hWx.out.drew | exact KT.out _ _ (by assumption) (by assumption) | (go_split_ands;exact KS.out _ (((Below.setCell (by assumption) hglr _).setCell hglr _).setCell hglr _)))
         (first
          | (go_at_call 316;go_split_ands;refine(of0Q _).mono ?_;rintro e w4 ⟨zv,rfl,hzv,hB4⟩;obtain⟨zs,Z1,zn1,zc1,Z2,zn2,zc2,rfl⟩:=hzv.shape;have a40:=(hB4.cell (p:=⟨gl,ci*3,none⟩) hgll).trans c40;have a41:=(hB4.cell (p:=⟨gl,ci*3+1,none⟩) hgll).trans c41;have a42:=(hB4.cell (p:=⟨gl,ci*3+2,none⟩) hgll).trans c42;have b40:=(hB4.frozen (p:=⟨gl,ci*3,none⟩) hgll).trans f40;have b41:=(hB4.frozen (p:=⟨gl,ci*3+1,none⟩) hgll).trans f41;have b42:=(hB4.frozen (p:=⟨gl,ci*3+2,none⟩) hgll).trans f42;have b4:gl<w4.heap.size:=Nat.lt_of_lt_of_le hgll hB4.size;have a6:=hid (HOx1.out.below (drB hB4));have a7:=hid hzv;clear hzv)
          | (go_at_call 315;go_split_ands;refine(MN.out _ _ a7.out (by assumption)).mono ?_;rintro e w5 ⟨mv,rfl,hmv,hB5⟩;obtain⟨ms,M1,mn1,mc1,M2,mn2,mc2,rfl⟩:=hmv.shape;have d40:=(hB5.cell (p:=⟨gl,ci*3,none⟩) b4).trans a40;have d41:=(hB5.cell (p:=⟨gl,ci*3+1,none⟩) b4).trans a41;have d42:=(hB5.cell (p:=⟨gl,ci*3+2,none⟩) b4).trans a42;have e40:=(hB5.frozen (p:=⟨gl,ci*3,none⟩) b4).trans b40;have e41:=(hB5.frozen (p:=⟨gl,ci*3+1,none⟩) b4).trans b41;have e42:=(hB5.frozen (p:=⟨gl,ci*3+2,none⟩) b4).trans b42;have d6:=hid (a6.out.below hB5);have d7:=hid hmv;clear hmv))
        all_goals (
         have HW7:Hid (Below wb.heap.size wb (((w5.setCell ⟨gl,ci*3,none⟩ (.bool ms)).setCell ⟨gl,ci*3+1,none⟩ (.slice M1 mn1 mc1)).setCell ⟨gl,ci*3+2,none⟩ (.slice M2 mn2 mc2))):=hid (by go_split_ands;assumption)
         have HO7:Hid (∃es',RowQ (((w5.setCell ⟨gl,ci*3,none⟩ (.bool ms)).setCell ⟨gl,ci*3+1,none⟩ (.slice M1 mn1 mc1)).setCell ⟨gl,ci*3+2,none⟩ (.slice M2 mn2 mc2)) gl es' (nsSet ratF 0 S col (i+1) L0)):=hid (by
          rw[Hst2.out]
          exact⟨_,d6.out.put (j:=ci) (e:=(ms,.slice M1 mn1 mc1,.slice M2 mn2 mc2)) (by rw[nsSet_length,HLl.out];omega) d7.out⟩)
         clear a40 a41 a42 b40 b41 b42 d40 d41 d42 e40 e41 e42 a6 a7 d6 d7 hB4 hB5 cc1r c40 c41 c42 f40 f41 f42 HOx1 hWx
         go_wp2
         go_roundg gh2
         case rel=>exact⟨i+1,by go_num,by omega,HW7,HO7⟩
         case measure=>omega)
end Go.Proofs.YtneafcdfnhnpnaaGreatDoor
namespace Go.Proofs.YtneafcdfnhnpnaaGreatDoor
open Go.RowKit Go.Lib
def detFrom (S:ElS Rat) (k:Nat):Rat:=(S.piv.take k).foldl (· * ·) (if S.odd=true then -1 else 1)
theorem detFrom_succ (S:ElS Rat) {k:Nat} (h:k<S.piv.length):detFrom S (k+1)=detFrom S k*S.piv[k]?.getD 0:=by
 unfold detFrom
 rw[List.take_add_one,List.getElem?_eq_getElem h,List.foldl_append];rfl
def detM (n:Nat) (M:List (List Rat)):Rat:=if (elimM ratF n M).piv.length<M.length then 0 else detFrom (elimM ratF n M) (elimM ratF n M).piv.length
def DetOk (S:ElS Rat):Prop:=∀k,k<S.piv.length→FitQ (detFrom S k)∧FitQ (S.piv[k]?.getD 0)
theorem detFrom_same {S Z:ElS Rat} (h:SameS S Z) (k:Nat):detFrom S k=detFrom Z k:=by unfold detFrom;rw[h.piv,h.odd]
def detPost (n g:Nat) (R:List RowR) (w:World) (e:Ending) (w':World):Prop:=
 ∃v,e = .returned v∧Rt w' v (detM n (valsT R))∧ButS (g::R.map (·.1)) w w'
theorem PivQ.at_ {w:World} {base n c:Nat} {A:Option Addr} {V:List Rat} (h:PivQ w base (.slice A n c) V) {j:Nat} (hj:j<V.length):
  ∃(g:Nat) (s:Bool) (B1:Option Addr) (m1 k1:Nat) (B2:Option Addr) (m2 k2:Nat),A=some ⟨g,0,none⟩∧base≤g∧g<w.heap.size∧Rt w (.agg #[.bool s,.slice B1 m1 k1,.slice B2 m2 k2]) (V[j]?.getD 0) ∧
   w.cell? ⟨g,j*3,none⟩=some (.bool s)∧w.cell? ⟨g,j*3+1,none⟩=some (.slice B1 m1 k1)∧w.cell? ⟨g,j*3+2,none⟩=some (.slice B2 m2 k2):=by
 obtain⟨es,h1,h2,h3,h4⟩:=h
 have hje:j<es.length:=by omega
 obtain⟨e,he⟩:∃e,es[j]? =some e:=⟨es[j],List.getElem?_eq_getElem hje⟩
 have hr:=h4 j e _ he (List.getElem?_eq_getElem hj)
 obtain⟨s,B1,m1,k1,B2,m2,k2,hs⟩:=hr.shape
 obtain⟨c1,c2,c3⟩:=ecells_at es j e he
 rcases h1.2 with ⟨hA,hn⟩ | ⟨g,cap,cur,hA,hb,hg,_,_,_,htake⟩
 ·omega
 ·injection hA with hA1 hA2 hA3
  subst hA1
  have hcell:∀i u,(ecells es)[i]? =some u→w.cell? ⟨g,i,none⟩=some u:=by
   intro i u hu
   rw[cell_of_row w g i cur _ (0,0) hg]
   rw[←htake,List.getElem?_take] at hu
   split at hu
   ·simpa using hu
   ·cases hu
  obtain⟨s',a',b'⟩:=e
  simp[elV] at hs
  obtain⟨rfl,rfl,rfl⟩:=hs
  exact⟨g,_,B1,m1,k1,B2,m2,k2,rfl,hb,(Array.getElem?_eq_some_iff.1 hg).1,by rw[List.getElem?_eq_getElem hj];exact hr,hcell _ _ c1,hcell _ _ c2,hcell _ _ c3⟩
theorem ofm1Q (w:World):Calls Tryz.prog 316 #[.agg #[],.int .i64 (-1)] w (ratPost (-1) w):=by
 have:=rtOf_c (-1) w (by omega) (by omega)
 have e:((-1:Int):Rat) = -1:=by simp[Rat.intCast_neg]
 rw[e] at this
 exact this
theorem ratOut {s:List Nat} {w x:World} {q:Rat} {g:Nat} {b:Bool} {A B:Option Addr} {n m c d:Nat} (hv:Rt x (.agg #[.bool b,.slice A n c,.slice B m d]) q) (hR:Own x g 122 [.bool false,.slice none 0 0,.slice none 0 0]) (hB:ButS s w x) (hg:w.heap.size≤g):
  Rt (((x.setCell ⟨g,0,none⟩ (.bool b)).setCell ⟨g,1,none⟩ (.slice A n c)).setCell ⟨g,2,none⟩ (.slice B m d)) (.agg #[.bool b,.slice A n c,.slice B m d]) q∧ButS s w (((x.setCell ⟨g,0,none⟩ (.bool b)).setCell ⟨g,1,none⟩ (.slice A n c)).setCell ⟨g,2,none⟩ (.slice B m d)):=by
 refine⟨hv.stay hR (fun c hc=> ?_) (But.set3 x g 0 _ _ _),((hB.setNew ⟨g,0,none⟩ hg _).setNew ⟨g,1,none⟩ hg _).setNew ⟨g,2,none⟩ hg _⟩
 simp only[List.mem_cons,List.not_mem_nil,or_false] at hc
 rcases hc with rfl | rfl | rfl
 ·exact noInt_bool _
 ·exact noInt_slice _ _ _
 ·exact noInt_slice _ _ _
theorem determinantQ_c (g c n:Nat) (R:List RowR) (w:World) (hM:MxR w g R n) (hc:R.length≤c) (hc2:c≤1000000) (hn:n≤1000000) (hok:OkM n (valsT R)) (hdet:DetOk (elimM ratF n (valsT R))):
  Calls Tryz.prog 160 #[.iface 172 (.agg #[]),.slice (some ⟨g,0,none⟩) R.length c] w (detPost n g R w):=by
 have hal:Below w.heap.size w (w.alloc (.cells #[.bool false,.slice none 0 0,.slice none 0 0] 122)):=(Below.refl _ _).alloc (Nat.le_refl _) _
 have HO0:=hid (Own.make w 122 [.bool false,.slice none 0 0,.slice none 0 0])
 have HDet:=hid hdet
 have EL:=hid (eliminateR_c g c n R _ (hM.below hal) hc hc2 hn (hok.rows rfl))
 have HM:=hid hM
 clear hok hdet hal hM
 go_enter Tryz.func160,Tryz.ntmps160
 go_wp2_with fail
 refine EL.out.mono ?_
 clear EL
 rintro e w1 ⟨S,hS,cv,pv,rfl,hM1,hcv,hpv,hl1,hl2,hl3,hpm,hbs⟩
 obtain⟨A1,k1,rfl,_,_⟩:=oForm hcv
 obtain⟨A2,k2,rfl,_,_⟩:=hpv.form
 have HSame:Hid (SameS S (elimM ratF n (valsT R))):=hid (by rw[hS];exact elim_same rfl _)
 have hlt:∀k∈g::R.map (·.1),k<w.heap.size:=by
  intro k hk
  exact HM.out.lt (by rcases List.mem_cons.1 hk with h | h;exact .inl h;exact .inr h)
 have HO1:Hid (Own w1 w.heap.size 122 [.bool false,.slice none 0 0,.slice none 0 0]):=hid ((hbs.block w.heap.size (by simp) (fun h=>by have:=hlt _ h;omega)).trans HO0.out)
 have HBS:Hid (ButS (g::R.map (·.1)) w w1):=hid ((ButS.of_below ((Below.refl _ w).alloc (Nat.le_refl _) _)).trans hbs)
 have hw1:w.heap.size+1≤w1.heap.size:=by have:=hbs.size;simpa using this
 have hlp:S.piv.length≤R.length:=by omega
 have Hpv:=hid hpv
 have HvR:Hid ((valsT R).length=R.length):=hid (vals_len R)
 have HDp:Hid (DetOk S):=hid (by
  have:=HDet.out
  unfold DetOk at this ⊢
  rw[HSame.out.piv]
  intro k hk
  rw[detFrom_same HSame.out];exact this k hk)
 clear hS hM1 hcv hpv hl1 hl2 hl3 hpm hbs hlt HO0 HM HDet
 have hofm:=qOf_meth
 have hT:=qTimes_meth
 obtain⟨W0,hW0⟩:∃W0,W0=w1.alloc (.cells #[.slice (some ⟨g,0,none⟩) S.piv.length c,.slice A1 S.cols.length k1,.slice A2 S.piv.length k2,.bool S.odd] 169):=⟨_,rfl⟩
 have hX:Hid (Own W0 w1.heap.size 169 [.slice (some ⟨g,0,none⟩) S.piv.length c,.slice A1 S.cols.length k1,.slice A2 S.piv.length k2,.bool S.odd]):=hid (by rw[hW0];exact Own.make _ _ _)
 have ha:Below w1.heap.size w1 W0:=by rw[hW0];exact(Below.refl _ _).alloc (Nat.le_refl _) _
 have hsz0:W0.heap.size=w1.heap.size+1:=by rw[hW0];simp
 have Hpv0:=hid (Hpv.out.below ha)
 have HO2:=hid (HO1.out.below ha HO1.out.lt)
 have HBS0:=hid (HBS.out.below ha)
 clear ha Hpv HO1 HBS
 by_cases hl:S.piv.length<R.length
 ·have hl':(S.piv.length:Int)<(R.length:Int):=by omega
  have hdl:decide (S.piv.length<R.length)=true:=by simpa using hl
  go_wp2_with fail
  rw[←hW0]
  refine(of0Q _).mono ?_
  rintro e w2 ⟨zv,rfl,hzv,hB2⟩
  obtain⟨zs,Z1,zn1,zc1,Z2,zn2,zc2,rfl⟩:=hzv.shape
  have hO3:=HO2.out.below hB2 HO2.out.lt
  obtain⟨e0,e1,e2,f0,f1,f2⟩:=hO3.three
  have hF:=ratOut hzv hO3 (HBS0.out.below hB2) (Nat.le_refl _)
  have Hd:Hid (detM n (valsT R)=0):=hid (by unfold detM;rw[←HSame.out.piv,HvR.out,if_pos hl])
  have HF:=hid hF
  have hol:=hO3.lt
  clear hF hzv hB2 hO3
  go_wp2
  exact bodyPost_ret (v:= .agg #[.bool zs,.slice Z1 zn1 zc1,.slice Z2 zn2 zc2]) (by simp[results,Tryz.results160,go_sem,e0,e1,e2]) rfl ⟨_,rfl,by rw[Hd.out];exact HF.out.1,HF.out.2⟩
 ·have hl':¬((S.piv.length:Int)<(R.length:Int)):=by omega
  have hdl:decide (S.piv.length<R.length)=false:=by simpa using hl
  have Hd:Hid (detM n (valsT R)=detFrom S S.piv.length):=hid (by unfold detM;rw[←HSame.out.piv,HvR.out,if_neg hl,detFrom_same HSame.out])
  go_wp2_with fail
  rw[←hW0]
  clear hW0
  refine(of1Q _).mono ?_
  rintro e w2 ⟨ov,rfl,hov,hB2⟩
  obtain⟨os,O1,on1,oc1,O2,on2,oc2,rfl⟩:=hov.shape
  have hal2:Below w2.heap.size w2 (w2.alloc (.cells #[.bool os,.slice O1 on1 oc1,.slice O2 on2 oc2] 122)):=(Below.refl _ _).alloc (Nat.le_refl _) _
  have HV:Hid (RowQ (w2.alloc (.cells #[.bool os,.slice O1 on1 oc1,.slice O2 on2 oc2] 122)) w2.heap.size [(os,.slice O1 on1 oc1,.slice O2 on2 oc2)] [1]):=hid ⟨Own.make w2 _ [.bool os,.slice O1 on1 oc1,.slice O2 on2 oc2],Nat.le_refl _,fun e' he'=>by simp at he';subst he';exact⟨noInt_slice _ _ _,noInt_slice _ _ _⟩,fun i e' q h1 h2=>by
   cases i with
   | zero=>simp at h1 h2;subst h1 h2;exact hov.below hal2
   | succ i=>simp at h1⟩
  have HB2:=hid (hB2.trans (hal2.mono hB2.size))
  have hvb:W0.heap.size≤w2.heap.size:=hB2.size
  have hX2:=hX.out.below HB2.out hX.out.lt
  obtain⟨x0,x1,x2,x3,y0,y1,y2,y3⟩:=hX2.four
  have hXl:=hX2.lt
  clear hov hB2 hal2 hX2
  by_cases hodd:S.odd=true
  case' pos=>
   rw[hodd] at x3
   have HD0:Hid (detFrom S 0 = -1):=hid (by unfold detFrom;rw[if_pos hodd];rfl)
   clear hodd
   go_upto_region 6 with fail
   obtain⟨W2,hW2⟩:∃W2,W2=w2.alloc (.cells #[.bool os,.slice O1 on1 oc1,.slice O2 on2 oc2] 122):=⟨_,rfl⟩
   rw[←hW2] at HV HB2 x0 x1 x2 x3 y0 y1 y2 y3 hXl
   rw[←hW2]
   clear hW2
   generalize w2.heap.size=vb at *
   go_wp2_with fail
   refine(ofm1Q _).mono ?_
   rintro e w3 ⟨mv,rfl,hmv,hB3⟩
   obtain⟨ms,M1,mn1,mc1,M2,mn2,mc2,rfl⟩:=hmv.shape
   have hV3:=HV.out.below hB3
   obtain⟨v0,v1,v2,u0,u1,u2⟩:=hV3.own.three
   have hvl:=hV3.own.lt
   have HV4:Hid (∃s B1 m1 k1 B2 m2 k2,RowQ (((w3.setCell ⟨vb,0,none⟩ (.bool ms)).setCell ⟨vb,1,none⟩ (.slice M1 mn1 mc1)).setCell ⟨vb,2,none⟩ (.slice M2 mn2 mc2)) vb [(s,.slice B1 m1 k1,.slice B2 m2 k2)] [detFrom S 0]):=hid (by
    rw[HD0.out]
    have:=hV3.put (j:=0) (e:=(ms,.slice M1 mn1 mc1,.slice M2 mn2 mc2)) (q:=-1) (by simp) hmv
    exact⟨_,_,_,_,_,_,_,this⟩)
   have HB4:=hid ((((HB2.out.trans (hB3.mono HB2.out.size)).setCell (p:=⟨vb,0,none⟩) hvb (.bool ms)).setCell (p:=⟨vb,1,none⟩) hvb (.slice M1 mn1 mc1)).setCell (p:=⟨vb,2,none⟩) hvb (.slice M2 mn2 mc2))
   clear hmv hB3 hV3 x0 x1 x2 x3 y0 y1 y2 y3 HV HB2 hXl
   go_upto_region 7 with fail
   obtain⟨w4,hw4⟩:∃w4,w4=((w3.setCell ⟨vb,0,none⟩ (.bool ms)).setCell ⟨vb,1,none⟩ (.slice M1 mn1 mc1)).setCell ⟨vb,2,none⟩ (.slice M2 mn2 mc2):=⟨_,rfl⟩
   rw[←hw4] at HV4 HB4
   rw[←hw4]
   clear hw4 v0 v1 v2 u0 u1 u2 hvl HD0
  case' neg=>
   have hodd':S.odd=false:=by simpa using hodd
   rw[hodd'] at x3
   have HD0:Hid (detFrom S 0=1):=hid (by unfold detFrom;rw[if_neg hodd];rfl)
   clear hodd hodd'
   go_upto_region 7 with fail
   obtain⟨w4,hW2⟩:∃w4,w4=w2.alloc (.cells #[.bool os,.slice O1 on1 oc1,.slice O2 on2 oc2] 122):=⟨_,rfl⟩
   rw[←hW2] at HV HB2
   rw[←hW2]
   clear hW2 x0 x1 x2 x3 y0 y1 y2 y3 hXl
   generalize w2.heap.size=vb at *
   have HV4:Hid (∃s B1 m1 k1 B2 m2 k2,RowQ w4 vb [(s,.slice B1 m1 k1,.slice B2 m2 k2)] [detFrom S 0]):=hid (by rw[HD0.out];exact⟨_,_,_,_,_,_,_,HV.out⟩)
   have HB4:=HB2
   clear HV HB2 HD0
  all_goals
   have hX4:=hX.out.below HB4.out hX.out.lt
   obtain⟨x0,x1,x2,x3,y0,y1,y2,y3⟩:=hX4.four
   have hXl:=hX4.lt
   clear hX4
   go_wp2_with fail
   clear x0 x1 x2 x3 y0 y1 y2 y3 hXl
   go_loopg [29] S.piv.length (fun gh ix wx=>∃i:Nat,ix = .int .i64 i∧i+gh=S.piv.length∧Hid (Below W0.heap.size W0 wx)∧Hid (∃s B1 m1 k1 B2 m2 k2,RowQ wx vb [(s,.slice B1 m1 k1,.slice B2 m2 k2)] [detFrom S i]))
   case atStart=>exact⟨0,rfl,by omega,HB4,HV4⟩
   case round=>
    clear HB4 HV4
    obtain⟨i,rfl,hi,hWx,hVx⟩:=hrel
    obtain⟨vs,V1,vn1,vc1,V2,vn2,vc2,hV⟩:=hVx.out
    obtain⟨v0,v1,v2,u0,u1,u2⟩:=hV.own.three
    have hvl:=hV.own.lt
    have HV:=hid hV
    clear hV hVx
    cases gk with
    | zero=>
     have hin3:¬((i:Int)<(S.piv.length:Int)):=by omega
     have hO3:=HO2.out.below hWx.out HO2.out.lt
     obtain⟨e0,e1,e2,f0,f1,f2⟩:=hO3.three
     have hrt:=HV.out.num 0 _ _ rfl rfl
     rw[show i=S.piv.length by omega] at hrt
     have HF:=hid (ratOut hrt hO3 (HBS0.out.below hWx.out) (Nat.le_refl _))
     have hol:=hO3.lt
     clear hrt hO3
     go_wp2
     exact bodyPost_ret (v:= .agg #[.bool vs,.slice V1 vn1 vc1,.slice V2 vn2 vc2]) (by simp[results,Tryz.results160,go_sem,e0,e1,e2]) rfl ⟨_,rfl,by rw[Hd.out];exact HF.out.1,HF.out.2⟩
    | succ gh2=>
     have hil:i<S.piv.length:=by omega
     have hil':(i:Int)<(S.piv.length:Int):=by omega
     obtain⟨pb,ps,P1,pn1,pc1,P2,pn2,pc2,hA,_,hpbl,hprt,p0,p1,p2⟩:=(Hpv0.out.below hWx.out).at_ hil
     have hfit:=HDp.out i hil
     have Hsucc:=hid (detFrom_succ S hil)
     have Hi:=hid hi
     have hal3:Below wr.heap.size wr (wr.alloc (.cells #[.bool ps,.slice P1 pn1 pc1,.slice P2 pn2 pc2] 122)):=(Below.refl _ _).alloc (Nat.le_refl _) _
     have TM:=hid (rtTimes_c (.agg #[.bool vs,.slice V1 vn1 vc1,.slice V2 vn2 vc2]) (.agg #[.bool ps,.slice P1 pn1 pc1,.slice P2 pn2 pc2]) (detFrom S i) (S.piv[i]?.getD 0) _ ((HV.out.num 0 _ _ rfl rfl).below hal3) (hprt.below hal3) hfit.1.1 hfit.1.2 hfit.2.1 hfit.2.2)
     have HPX:=hid (Own.make wr 122 [.bool ps,.slice P1 pn1 pc1,.slice P2 pn2 pc2])
     subst hA
     clear hprt hfit hi hal3
     go_wp2_with fail
     refine TM.out.mono ?_
     clear TM
     rintro e w5 ⟨rv,rfl,hrv,hB5⟩
     obtain⟨rs,R1,rn1,rc1,R2,rn2,rc2,rfl⟩:=hrv.shape
     have hB15:Below wr.heap.size wr w5:=((Below.refl wr.heap.size wr).alloc (Nat.le_refl _) _).trans (hB5.mono (by simp))
     have hV5:=HV.out.below hB15
     obtain⟨v0',v1',v2',u0',u1',u2'⟩:=hV5.own.three
     have hvl5:=hV5.own.lt
     have HV6:Hid (∃s B1 m1 k1 B2 m2 k2,RowQ (((w5.setCell ⟨vb,0,none⟩ (.bool rs)).setCell ⟨vb,1,none⟩ (.slice R1 rn1 rc1)).setCell ⟨vb,2,none⟩ (.slice R2 rn2 rc2)) vb [(s,.slice B1 m1 k1,.slice B2 m2 k2)] [detFrom S (i+1)]):=hid (by
      rw[Hsucc.out]
      have:=hV5.put (j:=0) (e:=(rs,.slice R1 rn1 rc1,.slice R2 rn2 rc2)) (q:=detFrom S i*S.piv[i]?.getD 0) (by simp) hrv
      exact⟨_,_,_,_,_,_,_,this⟩)
     have HW6:=hid ((((hWx.out.trans (hB15.mono hWx.out.size)).setCell (p:=⟨vb,0,none⟩) hvb (.bool rs)).setCell (p:=⟨vb,1,none⟩) hvb (.slice R1 rn1 rc1)).setCell (p:=⟨vb,2,none⟩) hvb (.slice R2 rn2 rc2))
     clear v0 v1 v2 u0 u1 u2 p0 p1 p2 hrv hB5 hB15 hV5 HV hWx HPX
     go_wp2
     go_roundg gh2
     case rel=>exact⟨i+1,by go_num,by have:=Hi.out;omega,HW6,HV6⟩
     case measure=>omega
def RdV (w:World) (l:List UInt8) (s:Bool) (A:Option Addr) (n c:Nat) (B:Option Addr) (m d:Nat) (k:Int):Prop:=
 k=(readRes l).1∧(k=0→Rt w (.agg #[.bool s,.slice A n c,.slice B m d]) (readRes l).2)
theorem read_parts_of {l:List UInt8} {w w':World} {e:Ending} (h:readPost (readRes l) w e w'):
  ∃s A n c B m d k,e = .returned (.tuple #[.agg #[.bool s,.slice A n c,.slice B m d],.int .i64 k])∧RdV w' l s A n c B m d k∧Below w.heap.size w w':=by
 unfold readPost at h
 split at h
 ·rename_i h0
  obtain⟨v,rfl,hv,hB⟩:=h
  obtain⟨s,A,n,c,B,m,d,rfl⟩:=hv.shape
  exact⟨s,A,n,c,B,m,d,0,rfl,⟨h0.symm,fun _=>hv⟩,hB⟩
 ·rename_i h0
  obtain⟨rfl,hB⟩:=h
  exact⟨false,none,0,0,none,0,0,_,rfl,⟨rfl,fun h=>absurd h h0⟩,hB⟩
theorem RdV.put3 {w:World} {l:List UInt8} {s:Bool} {A:Option Addr} {n c:Nat} {B:Option Addr} {m d:Nat} {k:Int} {g:Nat} {t:TypeId} {a b cc a' b' c':Value} (h:RdV w l s A n c B m d k) (hO:Own w g t [a,b,cc]) (ha:NoInt a) (hb:NoInt b) (hc:NoInt cc) (ha':NoInt a') (hb':NoInt b'):
  RdV (((w.setCell ⟨g,0,none⟩ a').setCell ⟨g,1,none⟩ b').setCell ⟨g,2,none⟩ c') l s A n c B m d k:=⟨h.1,fun hk=>(h.2 hk).put3 hO ha hb hc ha' hb'⟩
theorem RdV.below {w w':World} {l:List UInt8} {s:Bool} {A:Option Addr} {n c:Nat} {B:Option Addr} {m d:Nat} {k:Int} (h:RdV w l s A n c B m d k) (hb:Below w.heap.size w w'):RdV w' l s A n c B m d k:=⟨h.1,fun hk=>(h.2 hk).below hb⟩
def first2 (a b:Int):Int:=if a=0 then b else a
def twoPost (l1 l2:List UInt8) (w:World) (e:Ending) (w':World):Prop:=
 ∃s A n c B m d k s' A' n' c' B' m' d' k',e = .returned (.tuple #[.agg #[.bool s,.slice A n c,.slice B m d],.agg #[.bool s',.slice A' n' c',.slice B' m' d'],.int .i64 (first2 k k')]) ∧
  RdV w' l1 s A n c B m d k∧RdV w' l2 s' A' n' c' B' m' d' k'∧Below w.heap.size w w'
theorem readTwo_c (l1 l2:List UInt8) (w:World) (h1:l1.length<4294967281) (h2:l2.length<4294967281) (hG:Glob w) (o1:OkLen l1.length) (o2:OkLen l2.length):
  Calls Tryz.prog 113 #[.string ⟨l1.toArray⟩,.string ⟨l2.toArray⟩] w (twoPost l1 l2 w):=by
 have R1:=hid (fun w hG=>read_c l1 w h1 hG o1)
 have R2:=hid (fun w hG=>read_c l2 w h2 hG o2)
 have HG:=hid hG
 clear h1 h2 o1 o2 hG
 have HB0:Hid (Below w.heap.size w ((w.alloc (.cells #[.bool false,.slice none 0 0,.slice none 0 0] 122)).alloc (.cells #[.bool false,.slice none 0 0,.slice none 0 0] 122))):=hid (((Below.refl _ _).alloc (Nat.le_refl _) _).alloc (by simp) _)
 have HP:Hid (Own ((w.alloc (.cells #[.bool false,.slice none 0 0,.slice none 0 0] 122)).alloc (.cells #[.bool false,.slice none 0 0,.slice none 0 0] 122)) w.heap.size 122 [.bool false,.slice none 0 0,.slice none 0 0]):=hid ((Own.make w _ _).alloc _)
 have HQ:Hid (Own ((w.alloc (.cells #[.bool false,.slice none 0 0,.slice none 0 0] 122)).alloc (.cells #[.bool false,.slice none 0 0,.slice none 0 0] 122)) (w.heap.size+1) 122 [.bool false,.slice none 0 0,.slice none 0 0]):=hid (by
  have h:=Own.make (w.alloc (.cells #[.bool false,.slice none 0 0,.slice none 0 0] 122)) 122 [.bool false,.slice none 0 0,.slice none 0 0]
  simpa using h)
 go_enter Tryz.func113,Tryz.ntmps113
 go_wp2_with fail
 refine(R1.out _ (HG.out.below HB0.out)).mono ?_
 clear R1
 rintro e w1 hp
 obtain⟨s,A,n,c,B,m,d,k,rfl,hv,hB⟩:=read_parts_of hp
 have HP1:=hid (HP.out.below hB HP.out.lt)
 have HQ1:=hid (HQ.out.below hB HQ.out.lt)
 have HB1:=hid (HB0.out.trans (hB.mono HB0.out.size))
 obtain⟨c0,c1,c2,f0,f1,f2⟩:=HP1.out.three
 have HV1:=hid (hv.put3 (a':= .bool s) (b':= .slice A n c) (c':= .slice B m d) HP1.out (noInt_bool _) (noInt_slice _ _ _) (noInt_slice _ _ _) (noInt_bool _) (noInt_slice _ _ _))
 have HP2:=hid (HP1.out.set3 (a':= .bool s) (b':= .slice A n c) (c':= .slice B m d))
 have HQ2:=hid ((((HQ1.out).but (But.set3 w1 w.heap.size 0 (.bool s) (.slice A n c) (.slice B m d)) (by omega))))
 have HB2:Hid (Below w.heap.size w (((w1.setCell ⟨w.heap.size,0,none⟩ (.bool s)).setCell ⟨w.heap.size,1,none⟩ (.slice A n c)).setCell ⟨w.heap.size,2,none⟩ (.slice B m d))):=hid (((HB1.out.setCell (p:=⟨w.heap.size,0,none⟩) (Nat.le_refl _) _).setCell (p:=⟨w.heap.size,1,none⟩) (Nat.le_refl _) _).setCell (p:=⟨w.heap.size,2,none⟩) (Nat.le_refl _) _)
 clear hv hB HP1 HQ1 HB1 HP HQ HB0 hp
 go_wp2_with fail
 obtain⟨W2,hW2⟩:∃W2,W2=(((w1.setCell ⟨w.heap.size,0,none⟩ (.bool s)).setCell ⟨w.heap.size,1,none⟩ (.slice A n c)).setCell ⟨w.heap.size,2,none⟩ (.slice B m d)):=⟨_,rfl⟩
 rw[←hW2] at HV1 HP2 HQ2 HB2 ⊢
 clear hW2 c0 c1 c2 f0 f1 f2
 refine(R2.out _ (HG.out.below HB2.out)).mono ?_
 clear R2
 rintro e w3 hp
 obtain⟨s',A',n',c',B',m',d',k',rfl,hv,hB⟩:=read_parts_of hp
 have HP3:=hid (HP2.out.below hB HP2.out.lt)
 have HQ3:=hid (HQ2.out.below hB HQ2.out.lt)
 have HV3:=hid (HV1.out.below hB)
 have HB3:=hid (HB2.out.trans (hB.mono HB2.out.size))
 obtain⟨c0,c1,c2,f0,f1,f2⟩:=HQ3.out.three
 have HVB:=hid (hv.put3 (a':= .bool s') (b':= .slice A' n' c') (c':= .slice B' m' d') HQ3.out (noInt_bool _) (noInt_slice _ _ _) (noInt_slice _ _ _) (noInt_bool _) (noInt_slice _ _ _))
 have HVA:=hid (HV3.out.put3 (a':= .bool s') (b':= .slice A' n' c') (c':= .slice B' m' d') HQ3.out (noInt_bool _) (noInt_slice _ _ _) (noInt_slice _ _ _) (noInt_bool _) (noInt_slice _ _ _))
 have HQ4:=hid (HQ3.out.set3 (a':= .bool s') (b':= .slice A' n' c') (c':= .slice B' m' d'))
 have HP4:=hid ((((HP3.out).but (But.set3 w3 (w.heap.size+1) 0 (.bool s') (.slice A' n' c') (.slice B' m' d')) (by omega))))
 have HB4:Hid (Below w.heap.size w (((w3.setCell ⟨w.heap.size+1,0,none⟩ (.bool s')).setCell ⟨w.heap.size+1,1,none⟩ (.slice A' n' c')).setCell ⟨w.heap.size+1,2,none⟩ (.slice B' m' d'))):=hid (((HB3.out.setCell (p:=⟨w.heap.size+1,0,none⟩) (by simp) _).setCell (p:=⟨w.heap.size+1,1,none⟩) (by simp) _).setCell (p:=⟨w.heap.size+1,2,none⟩) (by simp) _)
 clear hv hB HP3 HQ3 HV3 HB3 HV1 HP2 HQ2 HB2 hp
 go_upto_region 1 with fail
 obtain⟨W4,hW4⟩:∃W4,W4=(((w3.setCell ⟨w.heap.size+1,0,none⟩ (.bool s')).setCell ⟨w.heap.size+1,1,none⟩ (.slice A' n' c')).setCell ⟨w.heap.size+1,2,none⟩ (.slice B' m' d')):=⟨_,rfl⟩
 have HVB2:Hid (RdV W4 l2 s' A' n' c' B' m' d' k'):=hid (by rw[hW4];exact HVB.out)
 have HVA2:Hid (RdV W4 l1 s A n c B m d k):=hid (by rw[hW4];exact HVA.out)
 have HQ5:Hid (Own W4 (w.heap.size+1) 122 [.bool s',.slice A' n' c',.slice B' m' d']):=hid (by rw[hW4];exact HQ4.out)
 have HP5:Hid (Own W4 w.heap.size 122 [.bool s,.slice A n c,.slice B m d]):=hid (by rw[hW4];exact HP4.out)
 have HB5:Hid (Below w.heap.size w W4):=hid (by rw[hW4];exact HB4.out)
 rw[←hW4]
 clear hW4 HVB HVA HQ4 HP4 HB4 c0 c1 c2 f0 f1 f2
 obtain⟨p0,p1,p2,p3,p4,p5⟩:=HP5.out.three
 obtain⟨q0,q1,q2,q3,q4,q5⟩:=HQ5.out.three
 have hgs:=HB5.out.size
 have hgl:=HQ5.out.lt
 have hpl:=HP5.out.lt
 generalize hgg:w.heap.size=g at *
 have HGG:=hid hgg
 clear hgg
 have FC:Hid (∀(W:World) (ty:TypeId),Calls Tryz.prog 111 #[.slice (some ⟨W.heap.size,0,none⟩) 2 2] (W.alloc (.cells #[.int .i64 k,.int .i64 k'] ty)).drew fun e w'=>e = .returned (.int .i64 (first2 k k'))∧(W.alloc (.cells #[.int .i64 k,.int .i64 k'] ty)).drew=w'):=hid (fun W ty=>by
  have h:=first_c _ [k,k'] _ ((Sl.lit W ty #[.int .i64 k,.int .i64 k'] 2 rfl (by omega)).drew)
  have e:firstErr [k,k']=first2 k k':=by
   unfold first2
   by_cases hk:k=0
   ·subst hk;by_cases hk':k'=0 <;> simp[firstErr,hk']
   ·simp[firstErr,hk]
  rw[e] at h;exact h)
 have nb:=noInt_bool
 have ns:=noInt_slice
 have X1:=HVA2.out.put3 (a':= .bool s) (b':= .slice A n c) (c':= .slice B m d) HP5.out (nb _) (ns _ _ _) (ns _ _ _) (nb _) (ns _ _ _)
 have Y1:=HVB2.out.put3 (a':= .bool s) (b':= .slice A n c) (c':= .slice B m d) HP5.out (nb _) (ns _ _ _) (ns _ _ _) (nb _) (ns _ _ _)
 have O1:=HQ5.out.but (But.set3 W4 g 0 (.bool s) (.slice A n c) (.slice B m d)) (by omega)
 have P1:=HP5.out.set3 (a':= .bool s) (b':= .slice A n c) (c':= .slice B m d)
 have X2:=X1.put3 (a':= .bool s') (b':= .slice A' n' c') (c':= .slice B' m' d') O1 (nb _) (ns _ _ _) (ns _ _ _) (nb _) (ns _ _ _)
 have Y2:=Y1.put3 (a':= .bool s') (b':= .slice A' n' c') (c':= .slice B' m' d') O1 (nb _) (ns _ _ _) (ns _ _ _) (nb _) (ns _ _ _)
 have O2:=O1.set3 (a':= .bool s') (b':= .slice A' n' c') (c':= .slice B' m' d')
 have P2:=P1.but (But.set3 _ (g+1) 0 (.bool s') (.slice A' n' c') (.slice B' m' d')) (by omega)
 have B2:Below g w ((((((W4.setCell ⟨g,0,none⟩ (.bool s)).setCell ⟨g,1,none⟩ (.slice A n c)).setCell ⟨g,2,none⟩ (.slice B m d)).setCell ⟨g+1,0,none⟩ (.bool s')).setCell ⟨g+1,1,none⟩ (.slice A' n' c')).setCell ⟨g+1,2,none⟩ (.slice B' m' d')):=
  (((((HB5.out.setCell (p:=⟨g,0,none⟩) (Nat.le_refl _) _).setCell (p:=⟨g,1,none⟩) (Nat.le_refl _) _).setCell (p:=⟨g,2,none⟩) (Nat.le_refl _) _).setCell (p:=⟨g+1,0,none⟩) (Nat.le_succ _) _).setCell (p:=⟨g+1,1,none⟩) (Nat.le_succ _) _).setCell (p:=⟨g+1,2,none⟩) (Nat.le_succ _) _
 have HFIN:Hid (∀o:Obj,∃F,F=((((((((W4.setCell ⟨g,0,none⟩ (.bool s)).setCell ⟨g,1,none⟩ (.slice A n c)).setCell ⟨g,2,none⟩ (.slice B m d)).setCell ⟨g+1,0,none⟩ (.bool s')).setCell ⟨g+1,1,none⟩ (.slice A' n' c')).setCell ⟨g+1,2,none⟩ (.slice B' m' d')).alloc o).drew) ∧
   RdV F l1 s A n c B m d k∧RdV F l2 s' A' n' c' B' m' d' k'∧Below g w F∧Own F g 122 [.bool s,.slice A n c,.slice B m d]∧Own F (g+1) 122 [.bool s',.slice A' n' c',.slice B' m' d']):=hid (fun o=>by
  have ha:=fun (W:World)=>((Below.refl W.heap.size W).alloc (Nat.le_refl _) o).drew
  exact⟨_,rfl,X2.below (ha _),Y2.below (ha _),(B2.alloc (by simp;omega) o).drew,P2.alloc o,O2.alloc o⟩)
 clear X1 Y1 O1 P1 X2 Y2 O2 P2 B2 nb ns HVB2 HVA2 HQ5 HP5 HB5
 go_region_with (go_at_call 111;refine(FC.out _ _).mono ?_;rintro ee w5 ⟨rfl,rfl⟩)
 all_goals (
  obtain⟨F,hF,hX,hY,hB,hP,hQ⟩:=HFIN.out (.cells #[.int .i64 k,.int .i64 k'] 24)
  rw[←hF]
  have HX:=hid hX
  have HY:=hid hY
  have HBF:=hid hB
  obtain⟨z0,z1,z2,_,_,_⟩:=hP.three
  obtain⟨y0,y1,y2,_,_,_⟩:=hQ.three
  clear hF hX hY hB hP hQ p0 p1 p2 p3 p4 p5 q0 q1 q2 q3 q4 q5 FC HFIN
  go_wp2
  exact bodyPost_ret (v:= .tuple #[.agg #[.bool s,.slice A n c,.slice B m d],.agg #[.bool s',.slice A' n' c',.slice B' m' d'],.int .i64 (first2 k k')]) (by simp[results,Tryz.results113,go_sem,z0,z1,z2,y0,y1,y2]) rfl ⟨s,A,n,c,B,m,d,k,s',A',n',c',B',m',d',k',rfl,HX.out,HY.out,by rw[HGG.out];exact HBF.out⟩)
def cmpPost (l1 l2:List UInt8) (w:World) (e:Ending) (w':World):Prop:=
 e = .returned (.tuple #[.int .i64 (if first2 (readRes l1).1 (readRes l2).1=0 then ratSign ((readRes l1).2-(readRes l2).2) else 0),.int .i64 (first2 (readRes l1).1 (readRes l2).1)])∧Below w.heap.size w w'
theorem Compare_c (l1 l2:List UInt8) (w:World) (h1:l1.length<4294967281) (h2:l2.length<4294967281) (hG:Glob w) (o1:OkLen l1.length) (o2:OkLen l2.length) (hf:FitP (readRes l1).2 (readRes l2).2):
  Calls Tryz.prog 22 #[.string ⟨l1.toArray⟩,.string ⟨l2.toArray⟩] w (cmpPost l1 l2 w):=by
 have TW:=hid (readTwo_c l1 l2 w h1 h2 hG o1 o2)
 have HF:=hid hf
 clear h1 h2 o1 o2 hG hf
 go_enter Tryz.func22,Tryz.ntmps22
 go_wp2_with fail
 refine TW.out.mono ?_
 clear TW
 rintro e w1 ⟨s,A,n,c,B,m,d,k,s',A',n',c',B',m',d',k',rfl,hX,hY,hB⟩
 have ha:Below w1.heap.size w1 ((w1.alloc (.cells #[.bool s,.slice A n c,.slice B m d] 122)).alloc (.cells #[.bool s',.slice A' n' c',.slice B' m' d'] 122)):=((Below.refl _ _).alloc (Nat.le_refl _) _).alloc (by simp) _
 have HB:=hid (hB.trans (ha.mono hB.size))
 by_cases h0:first2 k k'=0
 ·have hk:k=0:=by unfold first2 at h0;split at h0 <;> simp_all
  have hk':k'=0:=by unfold first2 at h0;rw[if_pos hk] at h0;exact h0
  have MI:=hid (ratMinus_c _ _ _ _ _ ((hX.2 hk).below ha) ((hY.2 hk').below ha) HF.out)
  have HE1:Hid (first2 (readRes l1).1 (readRes l2).1=0):=hid (by rw[←hX.1,←hY.1];exact h0)
  have hb:(first2 k k' != 0)=false:=by rw[h0];rfl
  clear hX hY hB ha h0 hk hk'
  generalize first2 k k'=ec at *
  go_wp2_with fail
  refine MI.out.mono ?_
  rintro e w2 ⟨v,rfl,hv,hB2⟩
  have SG:=hid (sign_c v _ w2 hv)
  go_wp2_with fail
  refine SG.out.mono ?_
  rintro e w3 ⟨rfl,hB3⟩
  have HBF:=hid (HB.out.trans ((hB2.trans (hB3.mono hB2.size)).mono HB.out.size))
  clear hB2 hB3 hv
  go_wp2
  go_ret2
  exact⟨by rw[HE1.out];rfl,HBF.out⟩
 ·have HE1:Hid (first2 (readRes l1).1 (readRes l2).1=first2 k k'):=hid (by rw[←hX.1,←hY.1])
  have HN:=hid h0
  have hb:(first2 k k' != 0)=true:=by simpa using h0
  clear hX hY hB ha h0
  generalize first2 k k'=ec at *
  go_wp2
  go_ret2
  exact⟨by rw[HE1.out,if_neg HN.out];rfl,HB.out⟩
end Go.Proofs.YtneafcdfnhnpnaaGreatDoor
