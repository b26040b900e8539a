/- Contract: the null space over the residues. -/
import Derived.Test.YteagkgagdelklaaGreatDoorZT18
set_option maxRecDepth 100000
set_option maxHeartbeats 4000000
namespace Go.Proofs.YteagkgagdelklaaGreatDoor
open Go.RowKit
theorem Jf {w:World} {base:Nat} {e:TypeId} {A:Option Addr} {n c:Nat} {xs:List Value} (h:w.ownsRow base e 1 (.slice A n c) n xs) {j:Nat} (hj:j<n):
  ∃g,A=some ⟨g,0,none⟩∧base≤g∧g<w.heap.size ∧ ∀i,i<n→w.cell? ⟨g,i,none⟩=xs[i]? :=by
 have hl:=h.1
 rcases h.2 with ⟨h1,h2⟩ | ⟨g,cap,cur,h1,hb,hg,h3,h4,h5,h6⟩
 ·omega
 ·injection h1 with h1 _ h8
  subst h1 h8;refine⟨g,rfl,hb,(Array.getElem?_eq_some_iff.1 hg).1,fun i hi=> ?_⟩;rw[cell_of_row w g i cur e (0,0) hg,←h6,QbR];simp[hi]
theorem VF (v:Value) (base:Nat) (cols:List Nat) (col:Nat) (w:World) (h:w.ownsRow base 3 1 v cols.length (jm cols)) (hl:cols.length≤1000000):
  Calls Tryz.prog 87 #[v,.int .i64 (col:Int)] w fun e w'=>e = .returned (.bool (cols.contains col))∧w=w':=by
 obtain⟨A,c,rfl,hc,_⟩:=jX h
 rcases cols with _ | ⟨a,r⟩
 ·exact(Tryz.slices_Contains_int_empty A c col w).mono fun e w' ⟨h1,h2⟩=>⟨h1,h2.symm⟩
 ·obtain⟨g,rfl,_,_,hcell⟩:=Jf h (j:=0) (by simp)
  generalize hL:a::r=L at *
  refine(Tryz.slices_Contains_int g 0 L.length c (L.map fun (x:Nat)=>(x:Int)) col w (by simp) (by omega) (fun j hj=> ?_)).mono fun e w' ⟨h1,h2⟩=>⟨?_,h2.symm⟩
  ·rw[Qar] at hj
   rw[Qbi,hcell j hj];simp[jm,hj]
  ·rw[h1,Qad (by simp)]
   congr 2
   rw[Bool.eq_iff_iff];simp only[List.contains_iff_mem,List.mem_map]
   exact⟨fun ⟨a,ha,e⟩=>by have:a=col:=by omega
                          exact this ▸ ha,fun h=>⟨col,h,rfl⟩⟩
def Js (w:World) (base:Nat) (v:Value) (B:List (Nat×List Int)) (n:Nat):Prop:=
 w.ownsRow base 118 1 v B.length (B.map fun r=>Value.slice (some ⟨r.1,0,none⟩) n n) ∧ ∀r∈B,base≤r.1∧ja w r.1 2 (je r.2)∧r.2.length=n
def GF (p:Int) (n g:Nat) (R:List jS) (w:World) (e:Ending) (w':World):Prop:=
 ∃v B,e = .returned v∧B.map (·.2)=nsBasis (jE p) 0 1 n (jy (jE p) n R.length 0 ⟨km List.reverse R R.length,[],[],false⟩) n∧Js w' w.heap.size v B n∧jO (g::R.map (·.1)) w w'
theorem Wu:(Tryz.prog.info? 118).map (fun i=>(i.zero,i.size,i.bytes))=some (some (.slice none 0 0),1,24):=by kernel_rfl
theorem GI (p:Int) (w:World) (hp:2≤p) (hp2:p≤1000000000):Calls Tryz.prog 256 #[.agg #[.int .i64 p],.int .i64 0] w fun e w'=>e = .returned (.int .i64 0)∧Below w.heap.size w w':=
 (MJ p 0 w (by omega) hp2).mono fun e w' h=>⟨by rw[h.1];simp,h.2⟩
theorem KP (p:Int) (w:World) (hp:2≤p) (hp2:p≤1000000000):Calls Tryz.prog 256 #[.agg #[.int .i64 p],.int .i64 1] w fun e w'=>e = .returned (.int .i64 1)∧Below w.heap.size w w':=
 (MJ p 1 w (by omega) hp2).mono fun e w' h=>⟨by rw[h.1,Int.emod_eq_of_lt (by omega) (by omega)],h.2⟩
theorem Js.below {w w':World} {base n:Nat} {v:Value} {B:List (Nat×List Int)} (h:Js w base v B n) (hb:Below w.heap.size w w'):Js w' base v B n:=
 ⟨kD h.1 hb,fun r hr=>⟨(h.2 r hr).1,(h.2 r hr).2.1.below hb (h.2 r hr).2.1.lt,(h.2 r hr).2.2⟩⟩
theorem Js.snoc {w w':World} {base n:Nat} {v v':Value} {B:List (Nat×List Int)} {gl:Nat} {L:List Int} (h:Js w base v B n) (hg:w.grownBy w' v.ownBlock) (hown:w'.ownsRow base 118 1 v' (B.length+1) (B.map (fun r=>Value.slice (some ⟨r.1,0,none⟩) n n)++[.slice (some ⟨gl,0,none⟩) n n]))
  (hO:ja w gl 2 (je L)) (hgl:base≤gl) (hl:L.length=n):Js w' base v' (B++[(gl,L)]) n:=by
 have hne:∀k,ja w k 2 (je L)→v.ownBlock≠some k:=by
  intro k hk e
  rcases h.1.2 with ⟨rfl,_⟩ | ⟨g,cap,cur,rfl,_,hg',_⟩
  ·simp[Value.ownBlock] at e
  ·simp[Value.ownBlock] at e
   subst e;unfold ja at hk;rw[hg'] at hk
   injection hk with hk
   injection hk with _ hk
   exact absurd hk (by decide)
 refine⟨by rw[QaQ,Qaf];exact hown,fun r hr=> ?_⟩;rcases List.mem_append.1 hr with hr | hr
 ·have:=h.2 r hr
  refine⟨this.1,this.2.1.grown hg ?_,this.2.2⟩;intro e
  rcases h.1.2 with ⟨rfl,_⟩ | ⟨g,cap,cur,rfl,_,hg',_⟩
  ·simp[Value.ownBlock] at e
  ·simp[Value.ownBlock] at e
   have hk:=this.2.1;rw[←e] at hk;unfold ja at hk;rw[hg'] at hk
   injection hk with hk
   injection hk with _ hk
   exact absurd hk (by decide)
 ·obtain rfl:=List.mem_singleton.1 hr
  exact⟨hgl,hO.grown hg (hne gl hO),hl⟩
theorem Cy (p:Int) (g c n:Nat) (R:List jS) (w:World) (hM:kj w g R n) (hc:R.length≤c) (hc2:c≤1000000) (hn:n≤1000000) (hp:PF p) (hI:yg p R) (h0:R=[]→n=0):
  Calls Tryz.prog 67 #[.iface 117 (.agg #[.int .i64 p]),.slice (some ⟨g,0,none⟩) R.length c] w (GF p n g R w):=by
 have HM:=Lib.hid hM;have HI:=Lib.hid hI;have HP:=Lib.hid hp;have H0:=Lib.hid h0;clear hM hI hp h0;go_enter Tryz.func67,Tryz.ntmps67
 go_wp2_with fail
 go_loopg [16] R.length (fun gh i wr=>∃k:Nat,i = .int .i64 k∧k+gh=R.length∧Hid (kj wr g (km List.reverse R k) n)∧Hid (jO (g::R.map (·.1)) w wr))
 case atStart=>exact⟨0,rfl,by omega,Lib.hid (by rw[X8];exact HM.out),Lib.hid (jO.refl _ _)⟩
 case round=>
  obtain⟨k,rfl,hk,hMk,hB⟩:=hrel
  cases gk with
  | succ gh=>
   have hlt:k<R.length:=by omega
   have hlt':(k:Int)<(R.length:Int):=by omega
   obtain⟨r,hr⟩:∃r,R[k]? =some r:=⟨R[k],Qaa hlt⟩
   have hr':=(X6 (f:=List.reverse) (R:=R) k).trans hr;have hck:=hMk.out.cellRow hr';have hgl:=hMk.out.own.lt;obtain⟨hro,hrl,hrc1,hrc2⟩:=hMk.out.row _ (Qab hr');have RV:=Lib.hid (MR wr r.1 n r.2.1 r.2.2 hro hrl.symm hrc1 hrc2);have Hk:=Lib.hid hk;have Hrb:Hid (r.1∈g::R.map (·.1)):=Lib.hid (QbU _ (Qa1 (Qab hr)));have Hst:=Lib.hid (ZM (f:=List.reverse) hr);have Hr:=Lib.hid hr';have Hrl:=Lib.hid hrl;clear hk hr hr' hro hrl;obtain⟨kb,kc,kl⟩:=r;unfold qL at hck;dsimp only at hck hrc1 hrc2
   go_wp2_with fail
   refine RV.out.mono ?_;clear RV;rintro e w1 ⟨rfl,hO1,hB1⟩
   have HM1:Hid (kj w1 g (km List.reverse R (k+1)) n):=Lib.hid (by
    rw[←Hst.out]
    exact hMk.out.setRow Hr.out hO1 (by rw[QbD];exact Hrl.out) hB1)
   have HB1:Hid (jO (g::R.map (·.1)) w w1):=Lib.hid (hB.out.but hB1 Hrb.out);clear hMk hB hO1 hB1 hck
   go_wp2
   go_roundg gh
   case rel=>exact⟨k+1,by go_num,by have:=Hk.out;omega,HM1,HB1⟩
   case measure=>omega
  | zero=>
   have hkR:k=R.length:=by omega
   have hin:¬((k:Int)<(R.length:Int)):=by omega
   rw[hkR] at hMk;clear hk hkR;generalize hQe:km List.reverse R R.length=Q at *;have HQl:Hid (Q.length=R.length):=Lib.hid (by rw[←hQe];exact Qz _);have HQb:Hid (Q.map (·.1)=R.map (·.1)):=Lib.hid (by rw[←hQe];exact Gf _)
   have HQi:Hid (yg p Q):=Lib.hid (by
    rw[←hQe,ZL];intro r hr x hx;obtain⟨q,hq,rfl⟩:=List.mem_map.1 hr
    exact HI.out q hq x (List.mem_reverse.1 hx))
   have HQ:=Lib.hid hQe;clear hQe
   have WD:Hid (Calls Tryz.prog 113 #[.slice (some ⟨g,0,none⟩) R.length c] wr fun e w'=>e = .returned (.int .i64 (n:Int))∧wr=w'):=Lib.hid (by
    have h:=EV g c n Q wr hMk.out;rw[HQl.out] at h;by_cases hR:R=[]
    ·have h1:=H0.out hR
     have:Q=[]:=List.length_eq_zero_iff.1 (by rw[HQl.out,hR];rfl);rw[if_pos this] at h;rw[h1];exact h
    ·have:Q≠[]:=fun e=>hR (List.length_eq_zero_iff.1 (by rw[←HQl.out,e];rfl))
     rw[if_neg this] at h
     exact h)
   have EL:Hid (Calls Tryz.prog 114 #[.iface 117 (.agg #[.int .i64 p]),.slice (some ⟨g,0,none⟩) R.length c] wr (Zr p n g c Q wr)):=Lib.hid (by
    have h:=Dq p g c n Q wr hMk.out (by rw[HQl.out];exact hc) hc2 hn HP.out HQi.out;rw[HQl.out] at h
    exact h)
   go_wp2_with (first | (go_at_call 113;refine WD.out.mono ?_;rintro e w' ⟨rfl,rfl⟩) | (go_at_call 114;refine EL.out.mono ?_;rintro e w1 ⟨S,hS,cv,pv,rfl,hM1,hcv,hpv,hl1,hl2,hl3,hpm,hin1,hbs⟩;obtain⟨A1,k1,rfl,_,_⟩:=jX hcv;obtain⟨A2,k2,rfl,_,_⟩:=jX hpv;have HS:=Lib.hid hS;have HM1:=Lib.hid hM1;have Hcv:=Lib.hid hcv;have Hl1:=Lib.hid hl1;have Hl2:=Lib.hid hl2;have Hl3:=Lib.hid hl3;have HPM:=Lib.hid hpm;have Hin:=Lib.hid hin1;have Hbs:=Lib.hid hbs;clear hS hM1 hcv hpv hl1 hl2 hl3 hpm hin1 hbs))
   obtain⟨W0,hW0⟩:∃W0,W0=w1.alloc (.cells #[.slice (some ⟨g,0,none⟩) S.piv.length c,.slice A1 S.cols.length k1,.slice A2 S.piv.length k2,.bool S.odd] 171):=⟨_,rfl⟩
   have hX:Hid (ja W0 w1.heap.size 171 [.slice (some ⟨g,0,none⟩) S.piv.length c,.slice A1 S.cols.length k1,.slice A2 S.piv.length k2,.bool S.odd]):=Lib.hid (by rw[hW0];exact ja.make _ _ _)
   have ha:Below w1.heap.size w1 W0:=by rw[hW0];exact(Below.refl _ _).alloc (Nat.le_refl _) _
   have hsz0:W0.heap.size=w1.heap.size+1:=by rw[hW0];simp
   have HM2:=Lib.hid (HM1.out.below ha);have Hcv2:=Lib.hid (kD Hcv.out ha)
   have HbW:Hid (jO (g::R.map (·.1)) w W0):=Lib.hid (by
    have:=Hbs.out;rw[HQb.out] at this
    exact(hB.out.trans this).below ha)
   have Hsz:Hid (W0.heap.size=w1.heap.size+1):=Lib.hid hsz0;have Hww:Hid (w.heap.size≤w1.heap.size):=Lib.hid (by have:=HbW.out.size;have h2:=(hB.out.trans (HQb.out ▸ Hbs.out)).size;exact h2);have Hcl:Hid (∀c∈S.cols,c<n):=Lib.hid (by rw[HS.out];exact Zm _ _ _ (by omega) (by simp));have HSS:Hid (S=jy (jE p) n R.length 0 ⟨km List.reverse R R.length,[],[],false⟩):=Lib.hid (by rw[HQ.out,←HQl.out];exact HS.out);rw[←hW0]
   have hpl:S.piv.length≤R.length:=by have:=Hl2.out;have:=Hl3.out;have:=HQl.out;omega
   have Hpc:=Hl1;clear ha hsz0 hW0 HM1 Hcv WD EL hB Hbs HPM HQi HQb hMk HS HQ;obtain⟨i0,hi0,hz0,hz1,hz2⟩:=info_parts Wu;have hpp:=HP.out.1;have hpp2:=HP.out.2.1;have hofm:=CO p
   go_loopg [9,10] n (fun gh b cl wr=>∃(k:Nat) (B:List (Nat×List Int)),cl = .int .i64 ((n:Int)-1-k)∧k+gh=n∧Hid (B.map (·.2)=nsBasis (jE p) 0 1 n S k)∧B.length≤k∧Hid (Js wr (w1.heap.size+1) b B n)∧Hid (Below (w1.heap.size+1) W0 wr))
   case atStart=>exact⟨0,[],by go_num,by omega,Lib.hid rfl,by simp,Lib.hid ⟨World.ownsRow_nil _ _ _ _,by simp⟩,Lib.hid (Below.refl _ _)⟩
   case round=>
    obtain⟨k,B,rfl,hk,hBe,hBl,hT,hW⟩:=hrel
    cases gk with
    | zero=>
     have hin2:¬((0:Int)≤(n:Int)-1-k):=by omega
     go_wp2
     go_ret
     have hkn:k=n:=by omega
     have hT':=hT.out;refine⟨_,B,rfl,?_,⟨zJ hT'.1 (by have:=Hww.out;omega),fun r hr=>⟨by have:=(hT'.2 r hr).1;have:=Hww.out;omega,(hT'.2 r hr).2⟩⟩,HbW.out.below (hW.out.mono (by rw[Hsz.out];exact Nat.le_refl _))⟩;rw[←HSS.out,hBe.out,hkn]
    | succ gh=>
     have hcol:(n:Int)-1-k=((n-1-k:Nat):Int):=by omega
     have hcn:n-1-k<n:=by omega
     rw[hcol];have Hst:Hid (nsBasis (jE p) 0 1 n S (k+1)=nsBasis (jE p) 0 1 n S k++(if S.cols.contains (n-1-k)=true then [] else [x8 (jE p) 0 1 n S (n-1-k)])):=Lib.hid rfl;have Hnext:Hid ((n:Int)-1-((k+1:Nat):Int)=((n-1-k:Nat):Int)-1):=Lib.hid (by omega);have Hk:=Lib.hid hk;clear hcol hk;generalize n-1-k=col at *;have CN:=Lib.hid (VF _ _ S.cols col wr (xt Hcv2.out fun j hj _=>hW.out.block j (by have:=Hsz.out;omega)) (by have:=Hpc.out;omega));have hX2:=hX.out.below hW.out (Nat.lt_succ_self _);obtain⟨x0,x1,x2,x3,y0,y1,y2,y3⟩:=hX2.four;by_cases hct:S.cols.contains col=true
     ·have Hct:=Lib.hid hct
      clear hct
      go_wp2_with fail
      refine CN.out.mono ?_;rintro e w2 ⟨rfl,rfl⟩;rw[Hct.out]
      go_wp2
      go_roundg gh
      case rel=>exact⟨k+1,B,by rw[Hnext.out],by have:=Hk.out;omega,Lib.hid (by rw[Hst.out,if_pos Hct.out,Qbg];exact hBe.out),by omega,hT,hW⟩
      case measure=>omega
     ·have Hct:Hid (S.cols.contains col=false):=Lib.hid (by simpa using hct)
      clear hct
      go_wp2_with fail
      refine CN.out.mono ?_;rintro e w2 ⟨rfl,rfl⟩;rw[Hct.out]
      go_wp2_with (first | (go_at_call 256;refine(GI p _ hpp hpp2).mono ?_;rintro e w2 ⟨rfl,hB2⟩) | (go_at_call 115;refine(DE 0 _ n hn).mono ?_;rintro e w3 ⟨gl,rfl,hgl,hO3,hB3⟩))
      have hO3l:w3.cell? ⟨gl,col,none⟩=some (.int .i64 0):=(hO3.cell col).trans (by simp[je,hcn]);have hgl3:=hO3.lt;have hglr:wr.heap.size≤gl:=Qap hB2.size hgl;have HB3:=Lib.hid (hB2.trans (hB3.mono hB2.size));have HO3:=Lib.hid hO3;clear hB2 hB3 hgl hO3 CN hX2 x0 x1 x2 x3 y0 y1 y2 y3
      go_wp2_with fail
      refine(KP p _ hpp hpp2).mono ?_;rintro e w4 ⟨rfl,hB4⟩;have hO4:=HO3.out.below hB4 hgl3;have hc4:=(hB4.cell (p:=⟨gl,col,none⟩) hgl3).trans hO3l;have hf4:=hO4.free col;have hgl4:=hO4.lt
      have hl4:Hid (ja (w4.setCell ⟨gl,col,none⟩ (.int .i64 1)) gl 2 (je (nsSet (jE p) 0 S col 0 ((List.replicate n 0).set col 1)))):=Lib.hid (by
       show ja _ _ _ (je ((List.replicate n 0).set col 1))
       rw[←x6];exact hO4.put _ _)
      have hW4:Hid (Below wr.heap.size wr (w4.setCell ⟨gl,col,none⟩ (.int .i64 1))):=Lib.hid ((HB3.out.trans (hB4.mono HB3.out.size)).setCell hglr _);have HX2:=Lib.hid (hX.out.below hW.out (Nat.lt_succ_self _));obtain⟨x0,x1,x2,x3,y0,y1,y2,y3⟩:=(HX2.out.below hW4.out HX2.out.lt).four;have HLl:Hid (((List.replicate n (0:Int)).set col 1).length=n):=Lib.hid (by simp);have HLe:Hid (x8 (jE p) 0 1 n S col=(nsSet (jE p) 0 S col S.cols.length ((List.replicate n 0).set col 1)).reverse):=Lib.hid rfl;generalize (List.replicate n (0:Int)).set col 1=L0 at *;clear hO3l HB3 HO3 hB4
      go_upto_region 15 with fail
      obtain⟨w5,hw5⟩:∃w5,w5=w4.setCell ⟨gl,col,none⟩ (.int .i64 1):=⟨_,rfl⟩
      rw[←hw5] at hl4 hW4 x0 x1 x2 x3 y0 y1 y2 y3;rw[←hw5];clear hw5 hO4 hc4 hf4 hgl4
      go_wp2_with fail
      obtain⟨wb,rfl⟩:∃wb,wb=wr:=⟨_,rfl⟩
      go_loopg [50] S.piv.length (fun gh2 ix wx=>∃i:Nat,ix = .int .i64 i∧i+gh2=S.piv.length∧Hid (Below wb.heap.size wb wx)∧Hid (ja wx gl 2 (je (nsSet (jE p) 0 S col i L0))))
      case atStart=>exact⟨0,rfl,by omega,hW4,hl4⟩
      case round=>
       clear hl4 hW4 x0 x1 x2 x3 y0 y1 y2 y3;obtain⟨i,rfl,hi,hWx,hOx⟩:=hrel
       cases gk with
       | zero=>
        have hin3:¬((i:Int)<(S.piv.length:Int)):=by omega
        have hOr:Hid (ja wr gl 2 (je (nsSet (jE p) 0 S col S.cols.length L0))):=Lib.hid (by
         have:i=S.cols.length:=by have:=Hpc.out;omega
         rw[←this];exact hOx.out)
        have RV:=Lib.hid (MR wr gl n n _ hOr.out (by rw[yL,HLl.out]) (Nat.le_refl _) hn)
        have hBl2:B.length<n:=by have:=Hk.out;omega
        go_wp2_with fail
        refine RV.out.mono ?_;rintro e w6 ⟨rfl,hO6,hB6⟩;rw[←HLe.out] at hO6;have HO6:=Lib.hid hO6;have HB6:=Lib.hid (hWx.out.trans (hB6.toBelow hglr hWx.out.size));have HT6:=Lib.hid (hT.out.below HB6.out)
        have hs6:w1.heap.size+1≤w6.heap.size:=by have:=HB6.out.size;have:=hW.out.size;have:=Hsz.out;omega
        clear hO6 hB6 RV hOr hOx hWx;obtain⟨A9,k9,hbv,_,_⟩:=jX HT6.out.1;subst hbv
        go_wp2_with (at_builtin;(refine wpList_append_own _ rfl _ _ 112 rfl (w1.heap.size+1) 118 i0 (.slice none 0 0) 1 24 Tryz.underlying112 hi0 hz0 hz1 hz2 rfl (by decide) _ _ _ rfl (HT6.out.1.alloc _) ⟨w6.heap.size,0,none⟩ 1 1 [.slice (some ⟨gl,0,none⟩) n n] rfl rfl (cell_one_new _ _ _) (fun x hx=>by simp at hx;subst hx;rfl) (by unfold maxLen;omega) (by omega) (by simp;omega) ?_;intro v7 w7 hown7 hgrow7 _))
        have hal:Below w6.heap.size w6 (w6.alloc (.cells #[.slice (some ⟨gl,0,none⟩) n n] 118)):=(Below.refl _ _).alloc (Nat.le_refl _) _;have HT7:=Lib.hid ((HT6.out.below hal).snoc hgrow7 hown7 (HO6.out.below hal HO6.out.lt) (by have:=hW.out.size;have:=Hsz.out;omega) (by rw[HLe.out,QbD,yL,HLl.out]));have HW7:Hid (Below (w1.heap.size+1) W0 w7):=Lib.hid (Below.grown (((hW.out.trans (HB6.out.mono (by have:=hW.out.size;have:=Hsz.out;omega)))).alloc hs6 _) hgrow7 (by simp;omega) (fun j hj=>(HT6.out.1.lt j hj).1))
        go_roundg gh
        case rel=>exact⟨k+1,B++[(gl,x8 (jE p) 0 1 n S col)],by rw[Hnext.out],by have:=Hk.out;omega,Lib.hid (by rw[Hst.out,if_neg (by rw[Hct.out];simp),QaQ,hBe.out];rfl),by simp;omega,HT7,HW7⟩
        case measure=>omega
       | succ gh2=>
        have hil:i<S.piv.length:=by omega
        have hil':(i:Int)<(S.piv.length:Int):=by omega
        obtain⟨r,hr⟩:∃r,S.rows[i]? =some r:=⟨S.rows[i]'(by have:=Hl2.out;omega),Qaa _⟩
        have hW0r:Below W0.heap.size W0 wr:=(hW.out.trans (hWx.out.mono (by have:=hW.out.size;have:=Hsz.out;omega))).mono (by rw[Hsz.out];exact Nat.le_refl _);have hMr:=HM2.out.below hW0r;have c1:=hMr.cellRow hr;have c2:=hMr.cellNum hr hcn;obtain⟨_,hrl,hrc1,hrc2⟩:=hMr.row _ (Qab hr);have hW0b:W0.heap.size≤wb.heap.size:=hW.out.size;have hrb0:r.1<wb.heap.size:=Qac (HM2.out.row _ (Qab hr)).1.lt hW0b;have hy:=Hin.out r (Qab hr) (r.2.2[col]?.getD 0) (by rw[Qaa (by omega)];exact Qay (by omega));obtain⟨cb0,hA0,_,hcb0,_⟩:=Jf Hcv2.out (j:=i) (by have:=Hpc.out;omega);obtain⟨cb,hA,_,hcbl,hcc⟩:=Jf (kD Hcv2.out hW0r) (j:=i) (by have:=Hpc.out;omega)
        have c3:wr.cell? ⟨cb,i,none⟩=some (.int .i64 ((S.cols[i]?.getD 0:Nat):Int)):=(hcc i (by have:=Hpc.out;omega)).trans (by
         have:i<S.cols.length:=by have:=Hpc.out;omega
         simp[jm,this])
        have hci:S.cols[i]?.getD 0<n:=Hcl.out _ (by
         have:i<S.cols.length:=by have:=Hpc.out;omega
         rw[Qaa this];exact Qay this)
        have Hst2:Hid (nsSet (jE p) 0 S col (i+1) L0=(nsSet (jE p) 0 S col i L0).set (S.cols[i]?.getD 0) ((0-r.2.2[col]?.getD 0)%p)):=Lib.hid (by
         rw[Jd]
         show _=_
         congr 1
         show (0-jC (jE p) S.rows i col)%p=_
         unfold jC
         rw[qF hr];rfl)
        have hX3:=HX2.out.below hWx.out HX2.out.lt;obtain⟨x0,x1,x2,x3,y0,y1,y2,y3⟩:=hX3.four;have hXl:=hX3.lt;have hrb:r.1<wr.heap.size:=(hMr.row _ (Qab hr)).1.lt;have hgl2:=hMr.own.lt;have hgll:=hOx.out.lt
        have hcbe:cb0=cb:=by rw[hA] at hA0;injection hA0 with h;injection h with h;exact h.symm
        have hcb0:cb<wb.heap.size:=by rw[←hcbe];exact Qac hcb0 hW0b
        clear hcbe hA0;subst hA;obtain⟨rb,rc,rl⟩:=r;unfold qL at c1;dsimp only at c1 c2 hrl hrc1 hrc2 hy Hst2 hrb hrb0;generalize rl[col]?.getD 0=y at *;generalize S.cols[i]?.getD 0=ci at *
        obtain⟨v,hv⟩:∃v,v=(0-y)%p:=⟨_,rfl⟩
        rw[←hv] at Hst2;have RM:=Lib.hid (fun W=>(hv ▸ MG p 0 y W (by omega) hpp2 ⟨by omega,by omega⟩ hy:Calls Tryz.prog 255 #[.agg #[.int .i64 p],.int .i64 0,.int .i64 y] W fun e w'=>e = .returned (.int .i64 v)∧Below W.heap.size W w'))
        obtain⟨z,c4⟩:∃z,wr.cell? ⟨gl,ci,none⟩=some (.int .i64 z):=⟨_,(hOx.out.cell ci).trans (kz _ ci (by rw[yL,HLl.out];exact hci))⟩
        have f4:=hOx.out.free ci;have Hr3:=Lib.hid (And.intro hrc1 hrc2)
        have KS:Hid (∀x,Below wb.heap.size wb x→x.cell? ⟨w1.heap.size,1,none⟩=some (.slice (some ⟨cb,0,none⟩) S.cols.length k1)∧x.cell? ⟨rb,col,none⟩=some (.int .i64 y)∧x.cell? ⟨cb,i,none⟩=some (.int .i64 (ci:Nat))∧Below wb.heap.size wb x):=Lib.hid (fun x hb=>
         ⟨(hb.cell (p:=⟨w1.heap.size,1,none⟩) HX2.out.lt).trans ((hWx.out.cell (p:=⟨w1.heap.size,1,none⟩) HX2.out.lt).symm.trans x1),(hb.cell (p:=⟨rb,col,none⟩) hrb0).trans ((hWx.out.cell (p:=⟨rb,col,none⟩) hrb0).symm.trans c2),(hb.cell (p:=⟨cb,i,none⟩) hcb0).trans ((hWx.out.cell (p:=⟨cb,i,none⟩) hcb0).symm.trans c3),hb⟩)
        have hic:i<S.cols.length:=by have:=Hpc.out;omega
        have hic':(i:Int)<(S.cols.length:Int):=by omega
        have hci':(ci:Int)<(n:Int):=by omega
        have hcn':(col:Int)<(n:Int):=by omega
        clear hv hr hy hMr hcc hX3 x0 x2 x3 y0 y1 y2 y3 hrl hW0r hrc1 hrc2 hrb0 hcb0 hW0b;have hM:=Gl p;have hmn:=Gm p
        have hmf:∀(fn:Fn) (first cap:Array Value) (w:World),(Instr.makeFunc fn first cap).run Tryz.prog w = .ok (.func fn first cap) w:=fun _ _ _ _=>rfl
        have KT:=Lib.hid (fun (x x':World) (hb:Below x.heap.size x x') (h5:Below wb.heap.size wb x)=>KS.out x' (h5.trans (hb.mono h5.size)))
        go_wp2_with fail
        go_region_held3 (fun w'=>w'.cell? ⟨w1.heap.size,1,none⟩=some (.slice (some ⟨cb,0,none⟩) S.cols.length k1)∧w'.cell? ⟨rb,col,none⟩=some (.int .i64 y)∧w'.cell? ⟨cb,i,none⟩=some (.int .i64 (ci:Nat))∧Below wb.heap.size wb w')
         (first | exact KS.out _ hWx.out.drew | exact KT.out _ _ (by assumption) (by assumption) | (go_split_ands;exact KS.out _ (Below.setCell (by assumption) hglr _)))
         (first
          | (go_at_call 256;go_split_ands;refine(GI p _ hpp hpp2).mono ?_;rintro e w4 ⟨rfl,hB4⟩;have a4:=(hB4.cell (p:=⟨gl,ci,none⟩) hgll).trans c4;have a5:=(hB4.frozen (p:=⟨gl,ci,none⟩) hgll).trans f4;have b4:gl<w4.heap.size:=Qac hgll hB4.size;have a6:=Lib.hid (hOx.out.below (jk.dr hB4) hgll))
          | (go_at_call 255;go_split_ands;refine(RM.out _).mono ?_;rintro e w5 ⟨rfl,hB5⟩;have d4:=(hB5.cell (p:=⟨gl,ci,none⟩) b4).trans a4;have d5:=(hB5.frozen (p:=⟨gl,ci,none⟩) b4).trans a5;have d6:=Lib.hid (a6.out.below hB5 b4)))
        all_goals (
         have HW7:Hid (Below wb.heap.size wb (w5.setCell ⟨gl,ci,none⟩ (.int .i64 v))):=Lib.hid (by go_split_ands;assumption);have HO7:Hid (ja (w5.setCell ⟨gl,ci,none⟩ (.int .i64 v)) gl 2 (je (nsSet (jE p) 0 S col (i+1) L0))):=Lib.hid (by rw[Hst2.out,←x6];exact d6.out.put _ _);clear a4 a5 a6 d4 d5 d6 hB4 hB5 c1 c2 c3 c4 f4 x1 hOx hWx
         go_wp2
         go_roundg gh2
         case rel=>exact⟨i+1,by go_num,by omega,HW7,HO7⟩
         case measure=>omega)
