/- Contract: determinant over the rational numbers. -/
import Derived.Test.YtneafcdfnhnpnaaGreatDoorZD43
import Derived.Test.YtneafcdfnhnpnaaGreatDoorZD42
set_option maxRecDepth 100000
set_option maxHeartbeats 4000000
namespace Go.Proofs.YtneafcdfnhnpnaaGreatDoor
open Go.RowKit Go.Lib
def jQ (S:jz Rat) (k:Nat):Rat:=(S.piv.take k).foldl (· * ·) (if S.odd=true then -1 else 1)
theorem SK (S:jz Rat) {k:Nat} (h:k<S.piv.length):jQ S (k+1)=jQ S k*S.piv[k]?.getD 0:=by
 unfold jQ;rw[List.take_add_one,List.getElem?_eq_getElem h,List.foldl_append];rfl
def qx (n:Nat) (M:List (List Rat)):Rat:=if (ko jd n M).piv.length<M.length then 0 else jQ (ko jd n M) (ko jd n M).piv.length
def Qx (S:jz Rat):Prop:=∀k,k<S.piv.length→kv (jQ S k)∧kv (S.piv[k]?.getD 0)
theorem Yu {S Z:jz Rat} (h:kw S Z) (k:Nat):jQ S k=jQ Z k:=by unfold jQ;rw[h.piv,h.odd]
def SN (n g:Nat) (R:List jr) (w:World) (e:Ending) (w':World):Prop:=
 ∃v,e = .returned v∧Rt w' v (qx n (ju R))∧jL (g::R.map (·.1)) w w'
theorem kI.at_ {w:World} {base n c:Nat} {A:Option Addr} {V:List Rat} (h:kI w base (.slice A n c) V) {j:Nat} (hj:j<V.length):
  ∃(g:Nat) (s:Bool) (B1:Option Addr) (m1 k1:Nat) (B2:Option Addr) (m2 k2:Nat),A=some ⟨g,0,none⟩∧base≤g∧g<w.heap.size∧Rt w (.agg #[.bool s,.slice B1 m1 k1,.slice B2 m2 k2]) (V[j]?.getD 0) ∧
   w.cell? ⟨g,j*3,none⟩=some (.bool s)∧w.cell? ⟨g,j*3+1,none⟩=some (.slice B1 m1 k1)∧w.cell? ⟨g,j*3+2,none⟩=some (.slice B2 m2 k2):=by
 obtain⟨es,h1,h2,h3,h4⟩:=h
 have hje:j<es.length:=by omega
 obtain⟨e,he⟩:∃e,es[j]? =some e:=⟨es[j],List.getElem?_eq_getElem hje⟩
 have hr:=h4 j e _ he (List.getElem?_eq_getElem hj);obtain⟨s,B1,m1,k1,B2,m2,k2,hs⟩:=hr.shape;obtain⟨c1,c2,c3⟩:=QY es j e he
 rcases h1.2 with ⟨hA,hn⟩ | ⟨g,cap,cur,hA,hb,hg,_,_,_,htake⟩
 ·omega
 ·injection hA with hA1 hA2 hA3
  subst hA1
  have hcell:∀i u,(jw es)[i]? =some u→w.cell? ⟨g,i,none⟩=some u:=by
   intro i u hu;rw[cell_of_row w g i cur _ (0,0) hg];rw[←htake,List.getElem?_take] at hu;split at hu
   ·simpa using hu
   ·cases hu
  obtain⟨s',a',b'⟩:=e;simp[k8] at hs;obtain⟨rfl,rfl,rfl⟩:=hs;exact⟨g,_,B1,m1,k1,B2,m2,k2,rfl,hb,(Array.getElem?_eq_some_iff.1 hg).1,by rw[List.getElem?_eq_getElem hj];exact hr,hcell _ _ c1,hcell _ _ c2,hcell _ _ c3⟩
theorem AH (w:World):Calls Tryz.prog 316 #[.agg #[],.int .i64 (-1)] w (qE (-1) w):=by
 have:=Zx (-1) w (by omega) (by omega)
 have e:((-1:Int):Rat) = -1:=by simp[Rat.intCast_neg]
 rw[e] at this;exact this
theorem Zs {s:List Nat} {w x:World} {q:Rat} {g:Nat} {b:Bool} {A B:Option Addr} {n m c d:Nat} (hv:Rt x (.agg #[.bool b,.slice A n c,.slice B m d]) q) (hR:ja x g 122 [.bool false,.slice none 0 0,.slice none 0 0]) (hB:jL s w x) (hg:w.heap.size≤g):
  Rt (((x.setCell ⟨g,0,none⟩ (.bool b)).setCell ⟨g,1,none⟩ (.slice A n c)).setCell ⟨g,2,none⟩ (.slice B m d)) (.agg #[.bool b,.slice A n c,.slice B m d]) q∧jL s w (((x.setCell ⟨g,0,none⟩ (.bool b)).setCell ⟨g,1,none⟩ (.slice A n c)).setCell ⟨g,2,none⟩ (.slice B m d)):=by
 refine⟨hv.stay hR (fun c hc=> ?_) (jh.set3 x g 0 _ _ _),((hB.setNew ⟨g,0,none⟩ hg _).setNew ⟨g,1,none⟩ hg _).setNew ⟨g,2,none⟩ hg _⟩;simp only[List.mem_cons,List.not_mem_nil,or_false] at hc;rcases hc with rfl | rfl | rfl
 ·exact js _
 ·exact jq _ _ _
 ·exact jq _ _ _
theorem SZ (g c n:Nat) (R:List jr) (w:World) (hM:j8 w g R n) (hc:R.length≤c) (hc2:c≤1000000) (hn:n≤1000000) (hok:yS n (ju R)) (hdet:Qx (ko jd n (ju R))):
  Calls Tryz.prog 160 #[.iface 172 (.agg #[]),.slice (some ⟨g,0,none⟩) R.length c] w (SN n g R w):=by
 have hal:Below w.heap.size w (w.alloc (.cells #[.bool false,.slice none 0 0,.slice none 0 0] 122)):=(Below.refl _ _).alloc (Nat.le_refl _) _;have HO0:=hid (ja.make w 122 [.bool false,.slice none 0 0,.slice none 0 0]);have HDet:=hid hdet;have EL:=hid (YI g c n R _ (hM.below hal) hc hc2 hn (hok.rows rfl));have HM:=hid hM;clear hok hdet hal hM;go_enter Tryz.func160,Tryz.ntmps160
 go_wp2_with fail
 refine EL.out.mono ?_;clear EL;rintro e w1 ⟨S,hS,cv,pv,rfl,hM1,hcv,hpv,hl1,hl2,hl3,hpm,hbs⟩;obtain⟨A1,k1,rfl,_,_⟩:=j7 hcv;obtain⟨A2,k2,rfl,_,_⟩:=hpv.form;have HSame:Hid (kw S (ko jd n (ju R))):=hid (by rw[hS];exact J2 rfl _)
 have hlt:∀k∈g::R.map (·.1),k<w.heap.size:=by
  intro k hk;exact HM.out.lt (by rcases List.mem_cons.1 hk with h | h;exact .inl h;exact .inr h)
 have HO1:Hid (ja w1 w.heap.size 122 [.bool false,.slice none 0 0,.slice none 0 0]):=hid ((hbs.block w.heap.size (by simp) (fun h=>by have:=hlt _ h;omega)).trans HO0.out);have HBS:Hid (jL (g::R.map (·.1)) w w1):=hid ((jL.of_below ((Below.refl _ w).alloc (Nat.le_refl _) _)).trans hbs)
 have hw1:w.heap.size+1≤w1.heap.size:=by have:=hbs.size;simpa using this
 have hlp:S.piv.length≤R.length:=by omega
 have Hpv:=hid hpv;have HvR:Hid ((ju R).length=R.length):=hid (yl R)
 have HDp:Hid (Qx S):=hid (by
  have:=HDet.out;unfold Qx at this ⊢;rw[HSame.out.piv];intro k hk
  rw[Yu HSame.out];exact this k hk)
 clear hS hM1 hcv hpv hl1 hl2 hl3 hpm hbs hlt HO0 HM HDet;have hofm:=Zn;have hT:=WK
 obtain⟨W0,hW0⟩:∃W0,W0=w1.alloc (.cells #[.slice (some ⟨g,0,none⟩) S.piv.length c,.slice A1 S.cols.length k1,.slice A2 S.piv.length k2,.bool S.odd] 169):=⟨_,rfl⟩
 have hX:Hid (ja W0 w1.heap.size 169 [.slice (some ⟨g,0,none⟩) S.piv.length c,.slice A1 S.cols.length k1,.slice A2 S.piv.length k2,.bool S.odd]):=hid (by rw[hW0];exact ja.make _ _ _)
 have ha:Below w1.heap.size w1 W0:=by rw[hW0];exact(Below.refl _ _).alloc (Nat.le_refl _) _
 have hsz0:W0.heap.size=w1.heap.size+1:=by rw[hW0];simp
 have Hpv0:=hid (Hpv.out.below ha);have HO2:=hid (HO1.out.below ha HO1.out.lt);have HBS0:=hid (HBS.out.below ha);clear ha Hpv HO1 HBS;by_cases hl:S.piv.length<R.length
 ·have hl':(S.piv.length:Int)<(R.length:Int):=by omega
  have hdl:decide (S.piv.length<R.length)=true:=by simpa using hl
  go_wp2_with fail
  rw[←hW0];refine(Xm _).mono ?_;rintro e w2 ⟨zv,rfl,hzv,hB2⟩;obtain⟨zs,Z1,zn1,zc1,Z2,zn2,zc2,rfl⟩:=hzv.shape;have hO3:=HO2.out.below hB2 HO2.out.lt;obtain⟨e0,e1,e2,f0,f1,f2⟩:=hO3.three;have hF:=Zs hzv hO3 (HBS0.out.below hB2) (Nat.le_refl _);have Hd:Hid (qx n (ju R)=0):=hid (by unfold qx;rw[←HSame.out.piv,HvR.out,if_pos hl]);have HF:=hid hF;have hol:=hO3.lt;clear hF hzv hB2 hO3
  go_wp2
  exact bodyPost_ret (v:= .agg #[.bool zs,.slice Z1 zn1 zc1,.slice Z2 zn2 zc2]) (by simp[results,Tryz.results160,go_sem,e0,e1,e2]) rfl ⟨_,rfl,by rw[Hd.out];exact HF.out.1,HF.out.2⟩
 ·have hl':¬((S.piv.length:Int)<(R.length:Int)):=by omega
  have hdl:decide (S.piv.length<R.length)=false:=by simpa using hl
  have Hd:Hid (qx n (ju R)=jQ S S.piv.length):=hid (by unfold qx;rw[←HSame.out.piv,HvR.out,if_neg hl,Yu HSame.out])
  go_wp2_with fail
  rw[←hW0];clear hW0;refine(Wj _).mono ?_;rintro e w2 ⟨ov,rfl,hov,hB2⟩;obtain⟨os,O1,on1,oc1,O2,on2,oc2,rfl⟩:=hov.shape;have hal2:Below w2.heap.size w2 (w2.alloc (.cells #[.bool os,.slice O1 on1 oc1,.slice O2 on2 oc2] 122)):=(Below.refl _ _).alloc (Nat.le_refl _) _
  have HV:Hid (jp (w2.alloc (.cells #[.bool os,.slice O1 on1 oc1,.slice O2 on2 oc2] 122)) w2.heap.size [(os,.slice O1 on1 oc1,.slice O2 on2 oc2)] [1]):=hid ⟨ja.make w2 _ [.bool os,.slice O1 on1 oc1,.slice O2 on2 oc2],Nat.le_refl _,fun e' he'=>by simp at he';subst he';exact⟨jq _ _ _,jq _ _ _⟩,fun i e' q h1 h2=>by
   cases i with
   | zero=>simp at h1 h2;subst h1 h2;exact hov.below hal2
   | succ i=>simp at h1⟩
  have HB2:=hid (hB2.trans (hal2.mono hB2.size));have hvb:W0.heap.size≤w2.heap.size:=hB2.size;have hX2:=hX.out.below HB2.out hX.out.lt;obtain⟨x0,x1,x2,x3,y0,y1,y2,y3⟩:=hX2.four;have hXl:=hX2.lt;clear hov hB2 hal2 hX2;by_cases hodd:S.odd=true
  case' pos=>
   rw[hodd] at x3;have HD0:Hid (jQ S 0 = -1):=hid (by unfold jQ;rw[if_pos hodd];rfl);clear hodd
   go_upto_region 6 with fail
   obtain⟨W2,hW2⟩:∃W2,W2=w2.alloc (.cells #[.bool os,.slice O1 on1 oc1,.slice O2 on2 oc2] 122):=⟨_,rfl⟩
   rw[←hW2] at HV HB2 x0 x1 x2 x3 y0 y1 y2 y3 hXl;rw[←hW2];clear hW2;generalize w2.heap.size=vb at *
   go_wp2_with fail
   refine(AH _).mono ?_;rintro e w3 ⟨mv,rfl,hmv,hB3⟩;obtain⟨ms,M1,mn1,mc1,M2,mn2,mc2,rfl⟩:=hmv.shape;have hV3:=HV.out.below hB3;obtain⟨v0,v1,v2,u0,u1,u2⟩:=hV3.own.three;have hvl:=hV3.own.lt
   have HV4:Hid (∃s B1 m1 k1 B2 m2 k2,jp (((w3.setCell ⟨vb,0,none⟩ (.bool ms)).setCell ⟨vb,1,none⟩ (.slice M1 mn1 mc1)).setCell ⟨vb,2,none⟩ (.slice M2 mn2 mc2)) vb [(s,.slice B1 m1 k1,.slice B2 m2 k2)] [jQ S 0]):=hid (by
    rw[HD0.out];have:=hV3.put (j:=0) (e:=(ms,.slice M1 mn1 mc1,.slice M2 mn2 mc2)) (q:=-1) (by simp) hmv
    exact⟨_,_,_,_,_,_,_,this⟩)
   have HB4:=hid ((((HB2.out.trans (hB3.mono HB2.out.size)).setCell (p:=⟨vb,0,none⟩) hvb (.bool ms)).setCell (p:=⟨vb,1,none⟩) hvb (.slice M1 mn1 mc1)).setCell (p:=⟨vb,2,none⟩) hvb (.slice M2 mn2 mc2));clear hmv hB3 hV3 x0 x1 x2 x3 y0 y1 y2 y3 HV HB2 hXl
   go_upto_region 7 with fail
   obtain⟨w4,hw4⟩:∃w4,w4=((w3.setCell ⟨vb,0,none⟩ (.bool ms)).setCell ⟨vb,1,none⟩ (.slice M1 mn1 mc1)).setCell ⟨vb,2,none⟩ (.slice M2 mn2 mc2):=⟨_,rfl⟩
   rw[←hw4] at HV4 HB4;rw[←hw4];clear hw4 v0 v1 v2 u0 u1 u2 hvl HD0
  case' neg=>
   have hodd':S.odd=false:=by simpa using hodd
   rw[hodd'] at x3;have HD0:Hid (jQ S 0=1):=hid (by unfold jQ;rw[if_neg hodd];rfl);clear hodd hodd'
   go_upto_region 7 with fail
   obtain⟨w4,hW2⟩:∃w4,w4=w2.alloc (.cells #[.bool os,.slice O1 on1 oc1,.slice O2 on2 oc2] 122):=⟨_,rfl⟩
   rw[←hW2] at HV HB2;rw[←hW2];clear hW2 x0 x1 x2 x3 y0 y1 y2 y3 hXl;generalize w2.heap.size=vb at *;have HV4:Hid (∃s B1 m1 k1 B2 m2 k2,jp w4 vb [(s,.slice B1 m1 k1,.slice B2 m2 k2)] [jQ S 0]):=hid (by rw[HD0.out];exact⟨_,_,_,_,_,_,_,HV.out⟩);have HB4:=HB2;clear HV HB2 HD0
  all_goals
   have hX4:=hX.out.below HB4.out hX.out.lt;obtain⟨x0,x1,x2,x3,y0,y1,y2,y3⟩:=hX4.four;have hXl:=hX4.lt;clear hX4
   go_wp2_with fail
   clear x0 x1 x2 x3 y0 y1 y2 y3 hXl
   go_loopg [29] S.piv.length (fun gh ix wx=>∃i:Nat,ix = .int .i64 i∧i+gh=S.piv.length∧Hid (Below W0.heap.size W0 wx)∧Hid (∃s B1 m1 k1 B2 m2 k2,jp wx vb [(s,.slice B1 m1 k1,.slice B2 m2 k2)] [jQ S i]))
   case atStart=>exact⟨0,rfl,by omega,HB4,HV4⟩
   case round=>
    clear HB4 HV4;obtain⟨i,rfl,hi,hWx,hVx⟩:=hrel;obtain⟨vs,V1,vn1,vc1,V2,vn2,vc2,hV⟩:=hVx.out;obtain⟨v0,v1,v2,u0,u1,u2⟩:=hV.own.three;have hvl:=hV.own.lt;have HV:=hid hV;clear hV hVx
    cases gk with
    | zero=>
     have hin3:¬((i:Int)<(S.piv.length:Int)):=by omega
     have hO3:=HO2.out.below hWx.out HO2.out.lt;obtain⟨e0,e1,e2,f0,f1,f2⟩:=hO3.three;have hrt:=HV.out.num 0 _ _ rfl rfl;rw[show i=S.piv.length by omega] at hrt;have HF:=hid (Zs hrt hO3 (HBS0.out.below hWx.out) (Nat.le_refl _));have hol:=hO3.lt;clear hrt hO3
     go_wp2
     exact bodyPost_ret (v:= .agg #[.bool vs,.slice V1 vn1 vc1,.slice V2 vn2 vc2]) (by simp[results,Tryz.results160,go_sem,e0,e1,e2]) rfl ⟨_,rfl,by rw[Hd.out];exact HF.out.1,HF.out.2⟩
    | succ gh2=>
     have hil:i<S.piv.length:=by omega
     have hil':(i:Int)<(S.piv.length:Int):=by omega
     obtain⟨pb,ps,P1,pn1,pc1,P2,pn2,pc2,hA,_,hpbl,hprt,p0,p1,p2⟩:=(Hpv0.out.below hWx.out).at_ hil;have hfit:=HDp.out i hil;have Hsucc:=hid (SK S hil);have Hi:=hid hi;have hal3:Below wr.heap.size wr (wr.alloc (.cells #[.bool ps,.slice P1 pn1 pc1,.slice P2 pn2 pc2] 122)):=(Below.refl _ _).alloc (Nat.le_refl _) _;have TM:=hid (GB (.agg #[.bool vs,.slice V1 vn1 vc1,.slice V2 vn2 vc2]) (.agg #[.bool ps,.slice P1 pn1 pc1,.slice P2 pn2 pc2]) (jQ S i) (S.piv[i]?.getD 0) _ ((HV.out.num 0 _ _ rfl rfl).below hal3) (hprt.below hal3) hfit.1.1 hfit.1.2 hfit.2.1 hfit.2.2);have HPX:=hid (ja.make wr 122 [.bool ps,.slice P1 pn1 pc1,.slice P2 pn2 pc2]);subst hA;clear hprt hfit hi hal3
     go_wp2_with fail
     refine TM.out.mono ?_;clear TM;rintro e w5 ⟨rv,rfl,hrv,hB5⟩;obtain⟨rs,R1,rn1,rc1,R2,rn2,rc2,rfl⟩:=hrv.shape;have hB15:Below wr.heap.size wr w5:=((Below.refl wr.heap.size wr).alloc (Nat.le_refl _) _).trans (hB5.mono (by simp));have hV5:=HV.out.below hB15;obtain⟨v0',v1',v2',u0',u1',u2'⟩:=hV5.own.three;have hvl5:=hV5.own.lt
     have HV6:Hid (∃s B1 m1 k1 B2 m2 k2,jp (((w5.setCell ⟨vb,0,none⟩ (.bool rs)).setCell ⟨vb,1,none⟩ (.slice R1 rn1 rc1)).setCell ⟨vb,2,none⟩ (.slice R2 rn2 rc2)) vb [(s,.slice B1 m1 k1,.slice B2 m2 k2)] [jQ S (i+1)]):=hid (by
      rw[Hsucc.out];have:=hV5.put (j:=0) (e:=(rs,.slice R1 rn1 rc1,.slice R2 rn2 rc2)) (q:=jQ S i*S.piv[i]?.getD 0) (by simp) hrv
      exact⟨_,_,_,_,_,_,_,this⟩)
     have HW6:=hid ((((hWx.out.trans (hB15.mono hWx.out.size)).setCell (p:=⟨vb,0,none⟩) hvb (.bool rs)).setCell (p:=⟨vb,1,none⟩) hvb (.slice R1 rn1 rc1)).setCell (p:=⟨vb,2,none⟩) hvb (.slice R2 rn2 rc2));clear v0 v1 v2 u0 u1 u2 p0 p1 p2 hrv hB5 hB15 hV5 HV hWx HPX
     go_wp2
     go_roundg gh2
     case rel=>exact⟨i+1,by go_num,by have:=Hi.out;omega,HW6,HV6⟩
     case measure=>omega
end Go.Proofs.YtneafcdfnhnpnaaGreatDoor
namespace Go.Proofs.YtneafcdfnhnpnaaGreatDoor
open Go.RowKit
def yL (t y x:Rat):Rat:=y-t*x
def zx (c:Nat) (t:Rat) (L P:List Rat):List Rat:=L.mapIdx fun j y=>if c≤j then yL t y (P[j]?.getD 0) else y
theorem LW {c n:Nat} {t:Rat} {L P:List Rat} (h:L.length=n) (hc:c≤n):kS 0 (yL t) c (n-c) L P=zx c t L P:=by
 unfold kS zx;apply List.ext_getElem?;intro j;simp only[List.getElem?_mapIdx];rcases Nat.lt_or_ge j L.length with hl | hl
 ·rw[List.getElem?_eq_getElem hl]
  simp only[Option.map_some,Option.some.injEq];by_cases h2:c≤j
  ·rw[if_pos ⟨h2,by omega⟩,if_pos h2]
  ·rw[if_neg (by omega),if_neg h2]
 ·rw[List.getElem?_eq_none hl];rfl
theorem ST {c:Nat} {d:Rat} {L P:List Rat} :zx c (L[c]?.getD 0/d) L P=kX jd c L (kf jd d c P):=by
 have hz:jd.z=0:=rfl
 have hi:∀x,(jd.isZ x=true)=(x=0):=fun x=>by simp[jd]
 have hs:∀y a b:Rat,jd.sub y (jd.mul a b)=y-a*b:=fun _ _ _=>rfl
 have hv:∀a b:Rat,jd.div a b=a/b:=fun _ _=>rfl
 have hP:∀j,c≤j→(kf jd d c P)[j]?.getD 0=P[j]?.getD 0/d:=by
  intro j hj;unfold kf;rw[List.getElem?_mapIdx]
  cases P[j]? with
  | none=>simp only[Option.map_none,Option.getD_none];rw[Rat.div_def,Rat.zero_mul]
  | some x=>
   simp only[Option.map_some,Option.getD_some,if_pos hj,hi,hv];split
   ·rename_i h0;rw[h0,Rat.div_def,Rat.zero_mul]
   ·rfl
 unfold zx kX yL;simp only[hz,hi,hs];split
 ·rename_i h0
  apply List.ext_getElem?;intro j;simp only[List.getElem?_mapIdx];rcases Nat.lt_or_ge j L.length with hl | hl
  ·rw[List.getElem?_eq_getElem hl]
   simp only[Option.map_some,Option.some.injEq];split
   ·rw[h0,Rat.div_def,Rat.zero_mul,Rat.zero_mul,Gy]
   ·rfl
  ·rw[List.getElem?_eq_none hl];rfl
 ·apply List.ext_getElem?
  intro j;simp only[List.getElem?_mapIdx];rcases Nat.lt_or_ge j L.length with hl | hl
  ·rw[List.getElem?_eq_getElem hl]
   simp only[Option.map_some,Option.some.injEq];by_cases hj:c≤j
   ·rw[if_pos hj,if_pos hj,hP j hj]
    have e:L[c]?.getD 0/d*P[j]?.getD 0=L[c]?.getD 0*(P[j]?.getD 0/d):=by
     rw[Rat.div_def,Rat.div_def,Rat.mul_assoc,Rat.mul_comm d⁻¹]
    split
    ·rename_i h1
     rw[e,h1,Rat.mul_zero,Gy]
    ·rw[e]
   ·rw[if_neg hj,if_neg hj]
  ·rw[List.getElem?_eq_none hl];rfl
theorem LY {c l:Nat} {t:Rat} (h:c≤l) {L P:List Rat} (hl:l<L.length):(kS 0 (yL t) c (l-c) L P).set l (L[l]?.getD 0-t*(P[l]?.getD 0))=kS 0 (yL t) c (l+1-c) L P:=by
 have e:c+(l-c)=l:=by omega
 have hs:=ZZ 0 (yL t) c (l-c) L P (L[l]) (by rw[e];exact List.getElem?_eq_getElem hl);rw[e] at hs;rw[show l+1-c=(l-c)+1 by omega,←hs,List.getElem?_eq_getElem hl];rfl
theorem LX {c l:Nat} {t:Rat} (h:c≤l) (L P:List Rat):(kS 0 (yL t) c (l-c) L P)[l]? =L[l]? :=by
 have e:c+(l-c)=l:=by omega
 have:=ZX 0 (yL t) c (l-c) L P
 rwa [e] at this
def qJ (c:Nat) (d:Rat) (P:List Rat) (Q:List jr) (k:Nat):List jr:=Q.mapIdx fun i r=>if c<i∧i<k then (r.1,r.2.1,zx c (r.2.2[c]?.getD 0/d) r.2.2 P) else r
section
variable {c k i n:Nat} {d:Rat} {P:List Rat} {Q:List jr}
theorem SU:(qJ c d P Q k).length=Q.length:=by simp[qJ]
theorem Jp (i:Nat):(qJ c d P Q k)[i]? =Q[i]?.map fun r=>if c<i∧i<k then (r.1,r.2.1,zx c (r.2.2[c]?.getD 0/d) r.2.2 P) else r:=by
 unfold qJ;rw[List.getElem?_mapIdx]
theorem US:(qJ c d P Q k)[k]? =Q[k]? :=by
 rw[Jp]
 cases Q[k]? with
 | none=>rfl
 | some r=>simp
theorem SW:(qJ c d P Q k)[c]? =Q[c]? :=by
 rw[Jp]
 cases Q[c]? with
 | none=>rfl
 | some r=>simp
theorem SX:qJ c d P Q (c+1)=Q:=by
 apply List.ext_getElem?;intro j;rw[Jp]
 cases Q[j]? with
 | none=>rfl
 | some r=>simp only[Option.map_some];rw[if_neg (by omega)]
theorem SY (hk:c<k) {r:jr} (hr:Q[k]? =some r):setRow (qJ c d P Q k) k (zx c (r.2.2[c]?.getD 0/d) r.2.2 P)=qJ c d P Q (k+1):=by
 apply List.ext_getElem?;intro j;by_cases hj:k=j
 ·subst hj
  rw[qA (by rw[US];exact hr),Jp,hr];simp only[Option.map_some];rw[if_pos ⟨hk,by omega⟩]
 ·rw[xA hj,Jp,Jp]
  cases Q[j]? with
  | none=>rfl
  | some x=>
   simp only[Option.map_some,Option.some.injEq];by_cases h:c<j∧j<k
   ·rw[if_pos h,if_pos ⟨h.1,by omega⟩]
   ·rw[if_neg h,if_neg (by omega)]
end
structure xm (B n g cg:Nat) (R:List jr) (w1 wr:World) (S:jz Rat) (Q:List jr) (c:Nat):Prop where
 mid:qu n g cg R w1 wr [] Q jm
 cl:S.cols.length=c
 pl:S.piv.length=c
 hc:c≤n
 rn:R.length=n
 good:Qz (fun _=>True) n n S.rows
 same:∀i,c≤i→i<n→jG Q i=jG S.rows i
 go:jH jd n (n-c) c S=jH jd n n 0 ⟨R,[],[],false⟩
 rest:∀i,c≤i→i<n → ∀k,k<c→jI jd S.rows i k=0
 bd:∀r∈S.rows,∀x∈r.2.2,Bq (B^5^c) x
 bf:Bq (B^5^c) (jQ S c)
theorem Va {n:Nat} :∀(k fr:Nat) (S:jz Rat),fr≤n→(jH jd n k fr S).piv.length≤S.piv.length+(n-fr)
 | 0,_,_,_=>by show _≤_;exact Nat.le_add_right _ _
 | k+1,fr,S,h=>by
  cases hp:kP jd S.rows S.cols.length (n-fr) fr with
  | none=>rw[TW hp];exact Nat.le_add_right _ _
  | some rc=>
   obtain⟨row,col⟩:=rc;obtain⟨b1,b2,_⟩:=Zi _ _ hp;rw[TZ hp];have:=Va (n:=n) k (col+1) (jU jd row col S) (by omega)
   have e:(jU jd row col S).piv.length=S.piv.length+1:=by simp[jU]
   omega
theorem Vn (L:List Rat):∀a:Rat,L.foldl (· * ·) (-a) = -(L.foldl (· * ·) a):=by
 induction L with
 | nil=>intro a;rfl
 | cons x t ih=>intro a;rw[List.foldl_cons,List.foldl_cons,Rat.neg_mul,ih]
theorem SJ {S:jz Rat} {row col c:Nat} (hc:S.piv.length=c):jQ (jU jd row col S) (c+1)=(if row=S.cols.length then jQ S c else -(jQ S c))*elPiv jd row col S:=by
 have h1:(jU jd row col S).piv=S.piv++[elPiv jd row col S]:=rfl
 have h2:(jU jd row col S).odd=if row=S.cols.length then S.odd else !S.odd:=rfl
 unfold jQ;rw[h1,h2,List.take_of_length_le (by simp;omega),List.take_of_length_le (by omega),List.foldl_append]
 show List.foldl _ _ S.piv*elPiv jd row col S=_
 congr 1
 split
 ·rfl
 ·cases S.odd with
  | true=>simp only[Bool.not_true,if_true];rw[if_neg (by decide),Vn,Rat.neg_neg]
  | false=>simp only[Bool.not_false,if_true];rw[if_neg (by decide),Vn]
theorem Qf {R:List jr} {i j:Nat} :jd.isZ (jI jd R i j)=decide (jI jd R i j=0):=rfl
theorem T5 {S:jz Rat} {i c:Nat} (h1:S.cols.length≤i) (h2:i<S.rows.length):elPiv jd i c S=jI jd S.rows i c:=by
 unfold elPiv;rw[YF h2]
 obtain⟨a,ha⟩:∃a,S.rows[i]? =some a:=⟨S.rows[i],List.getElem?_eq_getElem h2⟩
 obtain⟨b,hb⟩:∃b,S.rows[S.cols.length]? =some b:=⟨S.rows[S.cols.length]'(by omega),List.getElem?_eq_getElem _⟩
 unfold jI;rw[kW (Qm ha hb),kW ha]
section
variable {B n g cg c t:Nat} {R Q:List jr} {w1 wr wf:World} {S:jz Rat}
theorem xm.sl (h:xm B n g cg R w1 wr S Q c):S.rows.length=n:=h.good.1
theorem xm.ql (h:xm B n g cg R w1 wr S Q c):Q.length=n:=h.mid.len.trans h.rn
theorem xm.num (h:xm B n g cg R w1 wr S Q c) {i:Nat} (hi:c≤i) (hi2:i<n) (k:Nat):jI jd S.rows i k=kD Q i k:=by
 show (jG S.rows i)[k]?.getD 0=((Q[i]?.map (·.2.2)).getD [])[k]?.getD 0
 rw[←h.same i hi hi2];rfl
theorem xm.none (h:xm B n g cg R w1 wr S Q c) (hc:c<n) (h0:∀i,c≤i→i<n→kD Q i c=0):(jH jd n n 0 ⟨R,[],[],false⟩).piv.length<n:=by
 have hs:jH jd n (n-c) c S=jH jd n (n-c) (c+1) S:=TY (fun t h1 h2=>by
  rw[h.cl] at h1;rw[h.sl] at h2
  rw[Qf,h.num h1 h2,h0 t h1 h2];rfl) hc
 rw[←h.go,hs];have:=Va (n:=n) (n-c) (c+1) S (by omega);rw[h.pl] at this;omega
theorem xm.step (h:xm B n g cg R w1 wr S Q c) (hB:2≤B) (ht:c≤t) (ht2:t<n) (hd:kD Q t c≠0) (h0:∀i,c≤i→i<t→kD Q i c=0) {P:List Rat} (hP:P=jG (j9 Q t c) c)
  (hm:qu n g cg R w1 wf [] (qJ c (kD Q t c) P (j9 Q t c) n) jm):
  xm B n g cg R w1 wf (jU jd t c S) (qJ c (kD Q t c) P (j9 Q t c) n) (c+1)∧jQ (jU jd t c S) (c+1)=(if t=c then jQ S c else -(jQ S c))*kD Q t c:=by
 have hcn:c<n:=by omega
 have hnum:=h.num ht ht2 c
 have hd':jI jd S.rows t c≠0:=by rw[hnum];exact hd
 have hdz:jd.isZ (jI jd S.rows t c)=false:=by rw[Qf];simpa using hd'
 have hq:S.cols.length<n:=by rw[h.cl];exact hcn
 have hpe:elPiv jd t c S=kD Q t c:=by rw[T5 (by rw[h.cl];exact ht) (by rw[h.sl];exact ht2),hnum]
 have hcl:(jU jd t c S).cols=S.cols++[c]:=rfl;have hpl:(jU jd t c S).piv=S.piv++[elPiv jd t c S]:=rfl;obtain⟨hG,_⟩:=Vf WP h.good hq ht2 hd' (fun k hk=>h.rest t ht ht2 k hk);have hb2:2≤B^5^c:=Nat.le_trans hB (by have:=yg hB (show 1≤5^c from Nat.one_le_pow _ _ (by decide));rwa [Nat.pow_one] at this);have hdet:=SJ (S:=S) (row:=t) (col:=c) h.pl;rw[h.cl,hpe] at hdet
 have hpb:Bq (B^5^c) (kD Q t c):=by
  rw[←hnum];unfold jI;refine Bq.at hb2 (fun x hx=> ?_) c;rw[kW (List.getElem?_eq_getElem (by rw[h.sl];exact ht2))] at hx;exact h.bd _ (List.getElem_mem _) x hx
 refine⟨⟨hm,by rw[hcl,List.length_append,h.cl];rfl,by rw[hpl,List.length_append,h.pl];rfl,hcn,h.rn,hG,fun i hi hi2=> ?_,?_,fun i hi hi2 k hk=> ?_,?_,?_⟩,hdet⟩
 ·have hsl:=h.sl
  have hql:=h.ql
  have hrow1:∀j,c≤j→j<n→jG (j9 Q t c) j=jG (jX t S) j:=by
   intro j hj hj2;rw[YF (by rw[hsl];exact ht2),Xx (by omega) (by omega),h.cl,Xx (by omega) (by omega)];refine h.same _ ?_ ?_
   ·unfold sw;split
    ·exact ht
    ·split <;> omega
   ·unfold sw;split
    ·exact ht2
    ·split <;> omega
  have hS1l:(jX t S).length=n:=by rw[YG,hsl]
  have hlen:∀j,c≤j→j<n→(jG (jX t S) j).length=n:=by
   intro j hj hj2;rw[Gu (by omega) (by omega)];refine(h.good.2 _ ?_).1;rw[h.cl];unfold sw;split
   ·exact ht2
   ·split <;> omega
  obtain⟨r,hr⟩:∃r,(j9 Q t c)[i]? =some r:=⟨(j9 Q t c)[i]'(by rw[Kk];omega),List.getElem?_eq_getElem _⟩
  have hri:r.2.2=jG (jX t S) i:=by rw[←hrow1 i (by omega) hi2,kW hr]
  have e1:jG (qJ c (kD Q t c) P (j9 Q t c) n) i=zx c (r.2.2[c]?.getD 0/kD Q t c) r.2.2 P:=by
   have:(qJ c (kD Q t c) P (j9 Q t c) n)[i]? =some (r.1,r.2.1,zx c (r.2.2[c]?.getD 0/kD Q t c) r.2.2 P):=by
    rw[Jp,hr];simp only[Option.map_some];rw[if_pos ⟨by omega,hi2⟩]
   rw[kW this]
  have hPe:P=jG (jX t S) c:=by rw[hP,hrow1 c (Nat.le_refl _) hcn]
  have hdl:(elDiv jd t c S).length=n:=by unfold elDiv;rw[JE,hS1l]
  have e2:jG (jU jd t c S).rows i=kX jd c (jG (jX t S) i) (kf jd (kD Q t c) c P):=by
   show jG (ke jd S.cols.length c (jG (elDiv jd t c S) S.cols.length) (elDiv jd t c S) (elDiv jd t c S).length) i=_
   rw[Gs i (by rw[hdl];exact hi2),if_pos ⟨by rw[hdl];exact hi2,by rw[h.cl];omega⟩]
   have e3:∀j,jG (elDiv jd t c S) j=if j=c then kf jd (kD Q t c) c P else jG (jX t S) j:=by
    intro j;unfold elDiv;rw[Gv (by rw[hS1l];exact hq),h.cl,hpe,←hPe]
   rw[e3,if_neg (by omega),e3,h.cl,if_pos rfl]
  rw[e1,e2,hri];exact ST
 ·have hpv:kP jd S.rows S.cols.length (n-c) c=some (t,c):=
   Zj (n-c) c (Nat.le_refl _) (by omega) (by rw[h.cl];exact ht) (by rw[h.sl];exact ht2) hdz (fun i h1 h2=>by rw[h.cl] at h1;rw[Qf,h.num h1 (by omega),h0 i h1 h2];rfl) (fun c' h1 h2=>by omega)
  rw[←h.go,show n-c=(n-(c+1))+1 by omega,YD hpv]
 ·have:=T6 WP h.good hq (by rw[h.cl];exact ht) ht2 hdz (fun j h1 h2 k hk=>by rw[h.cl] at h1;rw[Qf,h.rest j h1 h2 k hk];rfl) i (by rw[h.cl];exact hi) hi2 k hk
  rw[Qf] at this;simpa using this
 ·have:=GV hb2 h.bd (row:=t) (col:=c) (by rw[hpe];exact hd)
  rw[Nat.pow_succ,Nat.pow_mul];exact this
 ·rw[hdet]
  have hf:Bq (B^5^c) (if t=c then jQ S c else -(jQ S c)):=by
   split
   ·exact h.bf
   ·exact h.bf.neg
  have:=hf.mul hpb;refine this.mono ?_;rw[Nat.pow_succ,Nat.pow_mul,←Nat.pow_two];exact yg hb2 (by decide)
end
