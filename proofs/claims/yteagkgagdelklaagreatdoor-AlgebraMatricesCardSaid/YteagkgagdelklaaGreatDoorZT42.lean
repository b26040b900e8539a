/- Contract: determinant over the rational numbers. -/
import Derived.Test.YteagkgagdelklaaGreatDoorZT41
import Derived.Test.YteagkgagdelklaaGreatDoorZT38
import Derived.Test.YteagkgagdelklaaGreatDoorZT36
set_option maxRecDepth 100000
set_option maxHeartbeats 8000000
namespace Go.Proofs.YteagkgagdelklaaGreatDoor
open Go.RowKit Go.Lib
def qO (S:jw Rat) (k:Nat):Rat:=(S.piv.take k).foldl (· * ·) (if S.odd=true then -1 else 1)
theorem NB (S:jw Rat) {k:Nat} (h:k<S.piv.length):qO S (k+1)=qO S k*S.piv[k]?.getD 0:=by
 unfold qO;rw[Qa5,Qaa h,List.foldl_append];rfl
def zc (n:Nat) (M:List (List Rat)):Rat:=if (j4 jc n M).piv.length<M.length then 0 else qO (j4 jc n M) (j4 jc n M).piv.length
def Xd (S:jw Rat):Prop:=∀k,k<S.piv.length→kI (qO S k)∧kI (S.piv[k]?.getD 0)
theorem VP {S Z:jw Rat} (h:ks S Z) (k:Nat):qO S k=qO Z k:=by unfold qO;rw[h.piv,h.odd]
def NC (n g:Nat) (R:List js) (w:World) (e:Ending) (w':World):Prop:=
 ∃v,e = .returned v∧Rt w' v (zc n (jv R))∧jO (g::R.map (·.1)) w w'
theorem kQ.at_ {w:World} {base n c:Nat} {A:Option Addr} {V:List Rat} (h:kQ w base (.slice A n c) V) {j:Nat} (hj:j<V.length):
  ∃(g:Nat) (s:Bool) (B1:Option Addr) (m1 k1:Nat) (B2:Option Addr) (m2 k2:Nat),A=some ⟨g,0,none⟩∧base≤g∧g<w.heap.size∧Rt w (.agg #[.bool s,.slice B1 m1 k1,.slice B2 m2 k2]) (V[j]?.getD 0) ∧
   w.cell? ⟨g,j*3,none⟩=some (.bool s)∧w.cell? ⟨g,j*3+1,none⟩=some (.slice B1 m1 k1)∧w.cell? ⟨g,j*3+2,none⟩=some (.slice B2 m2 k2):=by
 obtain⟨es,h1,h2,h3,h4⟩:=h
 have hje:j<es.length:=by omega
 obtain⟨e,he⟩:∃e,es[j]? =some e:=⟨es[j],Qaa hje⟩
 have hr:=h4 j e _ he (Qaa hj);obtain⟨s,B1,m1,k1,B2,m2,k2,hs⟩:=hr.shape;obtain⟨c1,c2,c3⟩:=XJ es j e he
 rcases h1.2 with ⟨hA,hn⟩ | ⟨g,cap,cur,hA,hb,hg,_,_,_,htake⟩
 ·omega
 ·injection hA with hA1 hA2 hA3
  subst hA1
  have hcell:∀i u,(jA es)[i]? =some u→w.cell? ⟨g,i,none⟩=some u:=by
   intro i u hu;rw[cell_of_row w g i cur _ (0,0) hg];rw[←htake,QbR] at hu;split at hu
   ·simpa using hu
   ·cases hu
  obtain⟨s',a',b'⟩:=e;simp[qk] at hs;obtain⟨rfl,rfl,rfl⟩:=hs;exact⟨g,_,B1,m1,k1,B2,m2,k2,rfl,hb,(Array.getElem?_eq_some_iff.1 hg).1,by rw[Qaa hj];exact hr,hcell _ _ c1,hcell _ _ c2,hcell _ _ c3⟩
theorem CQ (w:World):Calls Tryz.prog 251 #[.agg #[],.int .i64 (-1)] w (qR (-1) w):=by
 have:=Uy (-1) w (by omega) (by omega)
 have e:((-1:Int):Rat) = -1:=by simp[Rat.intCast_neg]
 rw[e] at this;exact this
theorem Up {s:List Nat} {w x:World} {q:Rat} {g:Nat} {b:Bool} {A B:Option Addr} {n m c d:Nat} (hv:Rt x (.agg #[.bool b,.slice A n c,.slice B m d]) q) (hR:ja x g 69 [.bool false,.slice none 0 0,.slice none 0 0]) (hB:jO s w x) (hg:w.heap.size≤g):
  Rt (((x.setCell ⟨g,0,none⟩ (.bool b)).setCell ⟨g,1,none⟩ (.slice A n c)).setCell ⟨g,2,none⟩ (.slice B m d)) (.agg #[.bool b,.slice A n c,.slice B m d]) q∧jO s w (((x.setCell ⟨g,0,none⟩ (.bool b)).setCell ⟨g,1,none⟩ (.slice A n c)).setCell ⟨g,2,none⟩ (.slice B m d)):=by
 refine⟨hv.stay hR (fun c hc=> ?_) (jk.set3 x g 0 _ _ _),((hB.setNew ⟨g,0,none⟩ hg _).setNew ⟨g,1,none⟩ hg _).setNew ⟨g,2,none⟩ hg _⟩;simp only[QbC,QbJ,or_false] at hc;rcases hc with rfl | rfl | rfl
 ·exact ju _
 ·exact jr _ _ _
 ·exact jr _ _ _
theorem NF (g c n:Nat) (R:List js) (w:World) (hM:j5 w g R n) (hc:R.length≤c) (hc2:c≤1000000) (hn:n≤1000000) (hok:yA n (jv R)) (hdet:Xd (j4 jc n (jv R))):
  Calls Tryz.prog 65 #[.iface 77 (.agg #[]),.slice (some ⟨g,0,none⟩) R.length c] w (NC n g R w):=by
 have hal:Below w.heap.size w (w.alloc (.cells #[.bool false,.slice none 0 0,.slice none 0 0] 69)):=(Below.refl _ _).alloc (Nat.le_refl _) _;have HO0:=hid (ja.make w 69 [.bool false,.slice none 0 0,.slice none 0 0]);have HDet:=hid hdet;have EL:=hid (Qs g c n R _ (hM.below hal) hc hc2 hn (hok.rows rfl));have HM:=hid hM;clear hok hdet hal hM;go_enter Tryz.func65,Tryz.ntmps65
 go_wp2_with fail
 refine EL.out.mono ?_;clear EL;rintro e w1 ⟨S,hS,cv,pv,rfl,hM1,hcv,hpv,hl1,hl2,hl3,hpm,hbs⟩;obtain⟨A1,k1,rfl,_,_⟩:=jX hcv;obtain⟨A2,k2,rfl,_,_⟩:=hpv.form;have HSame:Hid (ks S (j4 jc n (jv R))):=hid (by rw[hS];exact J3 rfl _)
 have hlt:∀k∈g::R.map (·.1),k<w.heap.size:=by
  intro k hk;exact HM.out.lt (by rcases List.mem_cons.1 hk with h | h;exact .inl h;exact .inr h)
 have HO1:Hid (ja w1 w.heap.size 69 [.bool false,.slice none 0 0,.slice none 0 0]):=hid ((hbs.block w.heap.size (by simp) (fun h=>by have:=hlt _ h;omega)).trans HO0.out);have HBS:Hid (jO (g::R.map (·.1)) w w1):=hid ((jO.of_below ((Below.refl _ w).alloc (Nat.le_refl _) _)).trans hbs)
 have hw1:w.heap.size+1≤w1.heap.size:=by have:=hbs.size;simpa using this
 have hlp:S.piv.length≤R.length:=by omega
 have Hpv:=hid hpv;have HvR:Hid ((jv R).length=R.length):=hid (yd R)
 have HDp:Hid (Xd S):=hid (by
  have:=HDet.out;unfold Xd at this ⊢;rw[HSame.out.piv];intro k hk
  rw[VP HSame.out];exact this k hk)
 clear hS hM1 hcv hpv hl1 hl2 hl3 hpm hbs hlt HO0 HM HDet;have hofm:=Uj;have hT:=H6
 obtain⟨W0,hW0⟩:∃W0,W0=w1.alloc (.cells #[.slice (some ⟨g,0,none⟩) S.piv.length c,.slice A1 S.cols.length k1,.slice A2 S.piv.length k2,.bool S.odd] 74):=⟨_,rfl⟩
 have hX:Hid (ja W0 w1.heap.size 74 [.slice (some ⟨g,0,none⟩) S.piv.length c,.slice A1 S.cols.length k1,.slice A2 S.piv.length k2,.bool S.odd]):=hid (by rw[hW0];exact ja.make _ _ _)
 have ha:Below w1.heap.size w1 W0:=by rw[hW0];exact(Below.refl _ _).alloc (Nat.le_refl _) _
 have hsz0:W0.heap.size=w1.heap.size+1:=by rw[hW0];simp
 have Hpv0:=hid (Hpv.out.below ha);have HO2:=hid (HO1.out.below ha HO1.out.lt);have HBS0:=hid (HBS.out.below ha);clear ha Hpv HO1 HBS;by_cases hl:S.piv.length<R.length
 ·have hl':(S.piv.length:Int)<(R.length:Int):=by omega
  have hdl:decide (S.piv.length<R.length)=true:=by simpa using hl
  go_wp2_with fail
  rw[←hW0];refine(Yd _).mono ?_;rintro e w2 ⟨zv,rfl,hzv,hB2⟩;obtain⟨zs,Z1,zn1,zc1,Z2,zn2,zc2,rfl⟩:=hzv.shape;have hO3:=HO2.out.below hB2 HO2.out.lt;obtain⟨e0,e1,e2,f0,f1,f2⟩:=hO3.three;have hF:=Up hzv hO3 (HBS0.out.below hB2) (Nat.le_refl _);have Hd:Hid (zc n (jv R)=0):=hid (by unfold zc;rw[←HSame.out.piv,HvR.out,if_pos hl]);have HF:=hid hF;have hol:=hO3.lt;clear hF hzv hB2 hO3
  go_wp2
  exact bodyPost_ret (v:= .agg #[.bool zs,.slice Z1 zn1 zc1,.slice Z2 zn2 zc2]) (by simp[results,Tryz.results65,go_sem,e0,e1,e2]) rfl ⟨_,rfl,by rw[Hd.out];exact HF.out.1,HF.out.2⟩
 ·have hl':¬((S.piv.length:Int)<(R.length:Int)):=by omega
  have hdl:decide (S.piv.length<R.length)=false:=by simpa using hl
  have Hd:Hid (zc n (jv R)=qO S S.piv.length):=hid (by unfold zc;rw[←HSame.out.piv,HvR.out,if_neg hl,VP HSame.out])
  go_wp2_with fail
  rw[←hW0];clear hW0;refine(GJ _).mono ?_;rintro e w2 ⟨ov,rfl,hov,hB2⟩;obtain⟨os,O1,on1,oc1,O2,on2,oc2,rfl⟩:=hov.shape;have hal2:Below w2.heap.size w2 (w2.alloc (.cells #[.bool os,.slice O1 on1 oc1,.slice O2 on2 oc2] 69)):=(Below.refl _ _).alloc (Nat.le_refl _) _
  have HV:Hid (jq (w2.alloc (.cells #[.bool os,.slice O1 on1 oc1,.slice O2 on2 oc2] 69)) w2.heap.size [(os,.slice O1 on1 oc1,.slice O2 on2 oc2)] [1]):=hid ⟨ja.make w2 _ [.bool os,.slice O1 on1 oc1,.slice O2 on2 oc2],Nat.le_refl _,fun e' he'=>by simp at he';subst he';exact⟨jr _ _ _,jr _ _ _⟩,fun i e' q h1 h2=>by
   cases i with
   | zero=>simp at h1 h2;subst h1 h2;exact hov.below hal2
   | succ i=>simp at h1⟩
  have HB2:=hid (hB2.trans (hal2.mono hB2.size));have hvb:W0.heap.size≤w2.heap.size:=hB2.size;have hX2:=hX.out.below HB2.out hX.out.lt;obtain⟨x0,x1,x2,x3,y0,y1,y2,y3⟩:=hX2.four;have hXl:=hX2.lt;clear hov hB2 hal2 hX2;by_cases hodd:S.odd=true
  case' pos=>
   rw[hodd] at x3;have HD0:Hid (qO S 0 = -1):=hid (by unfold qO;rw[if_pos hodd];rfl);clear hodd
   go_upto_region 6 with fail
   obtain⟨W2,hW2⟩:∃W2,W2=w2.alloc (.cells #[.bool os,.slice O1 on1 oc1,.slice O2 on2 oc2] 69):=⟨_,rfl⟩
   rw[←hW2] at HV HB2 x0 x1 x2 x3 y0 y1 y2 y3 hXl;rw[←hW2];clear hW2;generalize w2.heap.size=vb at *
   go_wp2_with fail
   refine(CQ _).mono ?_;rintro e w3 ⟨mv,rfl,hmv,hB3⟩;obtain⟨ms,M1,mn1,mc1,M2,mn2,mc2,rfl⟩:=hmv.shape;have hV3:=HV.out.below hB3;obtain⟨v0,v1,v2,u0,u1,u2⟩:=hV3.own.three;have hvl:=hV3.own.lt
   have HV4:Hid (∃s B1 m1 k1 B2 m2 k2,jq (((w3.setCell ⟨vb,0,none⟩ (.bool ms)).setCell ⟨vb,1,none⟩ (.slice M1 mn1 mc1)).setCell ⟨vb,2,none⟩ (.slice M2 mn2 mc2)) vb [(s,.slice B1 m1 k1,.slice B2 m2 k2)] [qO S 0]):=hid (by
    rw[HD0.out];have:=hV3.put (j:=0) (e:=(ms,.slice M1 mn1 mc1,.slice M2 mn2 mc2)) (q:=-1) (by simp) hmv
    exact⟨_,_,_,_,_,_,_,this⟩)
   have HB4:=hid ((((HB2.out.trans (hB3.mono HB2.out.size)).setCell (p:=⟨vb,0,none⟩) hvb (.bool ms)).setCell (p:=⟨vb,1,none⟩) hvb (.slice M1 mn1 mc1)).setCell (p:=⟨vb,2,none⟩) hvb (.slice M2 mn2 mc2));clear hmv hB3 hV3 x0 x1 x2 x3 y0 y1 y2 y3 HV HB2 hXl
   go_upto_region 7 with fail
   obtain⟨w4,hw4⟩:∃w4,w4=((w3.setCell ⟨vb,0,none⟩ (.bool ms)).setCell ⟨vb,1,none⟩ (.slice M1 mn1 mc1)).setCell ⟨vb,2,none⟩ (.slice M2 mn2 mc2):=⟨_,rfl⟩
   rw[←hw4] at HV4 HB4;rw[←hw4];clear hw4 v0 v1 v2 u0 u1 u2 hvl HD0
  case' neg=>
   have hodd':S.odd=false:=by simpa using hodd
   rw[hodd'] at x3;have HD0:Hid (qO S 0=1):=hid (by unfold qO;rw[if_neg hodd];rfl);clear hodd hodd'
   go_upto_region 7 with fail
   obtain⟨w4,hW2⟩:∃w4,w4=w2.alloc (.cells #[.bool os,.slice O1 on1 oc1,.slice O2 on2 oc2] 69):=⟨_,rfl⟩
   rw[←hW2] at HV HB2;rw[←hW2];clear hW2 x0 x1 x2 x3 y0 y1 y2 y3 hXl;generalize w2.heap.size=vb at *;have HV4:Hid (∃s B1 m1 k1 B2 m2 k2,jq w4 vb [(s,.slice B1 m1 k1,.slice B2 m2 k2)] [qO S 0]):=hid (by rw[HD0.out];exact⟨_,_,_,_,_,_,_,HV.out⟩);have HB4:=HB2;clear HV HB2 HD0
  all_goals
   have hX4:=hX.out.below HB4.out hX.out.lt;obtain⟨x0,x1,x2,x3,y0,y1,y2,y3⟩:=hX4.four;have hXl:=hX4.lt;clear hX4
   go_wp2_with fail
   clear x0 x1 x2 x3 y0 y1 y2 y3 hXl
   go_loopg [29] S.piv.length (fun gh ix wx=>∃i:Nat,ix = .int .i64 i∧i+gh=S.piv.length∧Hid (Below W0.heap.size W0 wx)∧Hid (∃s B1 m1 k1 B2 m2 k2,jq wx vb [(s,.slice B1 m1 k1,.slice B2 m2 k2)] [qO S i]))
   case atStart=>exact⟨0,rfl,by omega,HB4,HV4⟩
   case round=>
    clear HB4 HV4;obtain⟨i,rfl,hi,hWx,hVx⟩:=hrel;obtain⟨vs,V1,vn1,vc1,V2,vn2,vc2,hV⟩:=hVx.out;obtain⟨v0,v1,v2,u0,u1,u2⟩:=hV.own.three;have hvl:=hV.own.lt;have HV:=hid hV;clear hV hVx
    cases gk with
    | zero=>
     have hin3:¬((i:Int)<(S.piv.length:Int)):=by omega
     have hO3:=HO2.out.below hWx.out HO2.out.lt;obtain⟨e0,e1,e2,f0,f1,f2⟩:=hO3.three;have hrt:=HV.out.num 0 _ _ rfl rfl;rw[show i=S.piv.length by omega] at hrt;have HF:=hid (Up hrt hO3 (HBS0.out.below hWx.out) (Nat.le_refl _));have hol:=hO3.lt;clear hrt hO3
     go_wp2
     exact bodyPost_ret (v:= .agg #[.bool vs,.slice V1 vn1 vc1,.slice V2 vn2 vc2]) (by simp[results,Tryz.results65,go_sem,e0,e1,e2]) rfl ⟨_,rfl,by rw[Hd.out];exact HF.out.1,HF.out.2⟩
    | succ gh2=>
     have hil:i<S.piv.length:=by omega
     have hil':(i:Int)<(S.piv.length:Int):=by omega
     obtain⟨pb,ps,P1,pn1,pc1,P2,pn2,pc2,hA,_,hpbl,hprt,p0,p1,p2⟩:=(Hpv0.out.below hWx.out).at_ hil;have hfit:=HDp.out i hil;have Hsucc:=hid (NB S hil);have Hi:=hid hi;have hal3:Below wr.heap.size wr (wr.alloc (.cells #[.bool ps,.slice P1 pn1 pc1,.slice P2 pn2 pc2] 69)):=(Below.refl _ _).alloc (Nat.le_refl _) _;have TM:=hid (M0 (.agg #[.bool vs,.slice V1 vn1 vc1,.slice V2 vn2 vc2]) (.agg #[.bool ps,.slice P1 pn1 pc1,.slice P2 pn2 pc2]) (qO S i) (S.piv[i]?.getD 0) _ ((HV.out.num 0 _ _ rfl rfl).below hal3) (hprt.below hal3) hfit.1.1 hfit.1.2 hfit.2.1 hfit.2.2);have HPX:=hid (ja.make wr 69 [.bool ps,.slice P1 pn1 pc1,.slice P2 pn2 pc2]);subst hA;clear hprt hfit hi hal3
     go_wp2_with fail
     refine TM.out.mono ?_;clear TM;rintro e w5 ⟨rv,rfl,hrv,hB5⟩;obtain⟨rs,R1,rn1,rc1,R2,rn2,rc2,rfl⟩:=hrv.shape;have hB15:Below wr.heap.size wr w5:=((Below.refl wr.heap.size wr).alloc (Nat.le_refl _) _).trans (hB5.mono (by simp));have hV5:=HV.out.below hB15;obtain⟨v0',v1',v2',u0',u1',u2'⟩:=hV5.own.three;have hvl5:=hV5.own.lt
     have HV6:Hid (∃s B1 m1 k1 B2 m2 k2,jq (((w5.setCell ⟨vb,0,none⟩ (.bool rs)).setCell ⟨vb,1,none⟩ (.slice R1 rn1 rc1)).setCell ⟨vb,2,none⟩ (.slice R2 rn2 rc2)) vb [(s,.slice B1 m1 k1,.slice B2 m2 k2)] [qO S (i+1)]):=hid (by
      rw[Hsucc.out];have:=hV5.put (j:=0) (e:=(rs,.slice R1 rn1 rc1,.slice R2 rn2 rc2)) (q:=qO S i*S.piv[i]?.getD 0) (by simp) hrv
      exact⟨_,_,_,_,_,_,_,this⟩)
     have HW6:=hid ((((hWx.out.trans (hB15.mono hWx.out.size)).setCell (p:=⟨vb,0,none⟩) hvb (.bool rs)).setCell (p:=⟨vb,1,none⟩) hvb (.slice R1 rn1 rc1)).setCell (p:=⟨vb,2,none⟩) hvb (.slice R2 rn2 rc2));clear v0 v1 v2 u0 u1 u2 p0 p1 p2 hrv hB5 hB15 hV5 HV hWx HPX
     go_wp2
     go_roundg gh2
     case rel=>exact⟨i+1,by go_num,by have:=Hi.out;omega,HW6,HV6⟩
     case measure=>omega
def ND (M:List (List jl)) (w:World) (e:Ending) (w':World):Prop:=
 Below w.heap.size w w'∧((jG M=0∧ji M=M.length∧e=ye (zc (ji M) (M.map jg)))∨(jG M=0∧ji M≠M.length∧e = .returned (.tuple #[.string ⟨#[]⟩,.int .i64 2]))∨(jG M≠0∧e = .returned (.tuple #[.string ⟨#[]⟩,.int .i64 (jG M)])))
def U0 (n:Nat) (M:List (List Rat)):Prop:=yA n M∧Xd (j4 jc n M)∧kI (zc n M)
theorem ZU {w w1 w2:World} {g:Nat} {R:List js} (hB1:Below w.heap.size w w1) (hg:w.heap.size≤g) (hnew:∀r∈R,w.heap.size≤r.1) (hbs:jO (g::R.map (·.1)) w1 w2):Below w.heap.size w w2:=
 hB1.trans (hbs.toBelow (fun k hk=>by
  rcases List.mem_cons.1 hk with rfl | hk
  ·exact hg
  ·obtain⟨r,hr,rfl⟩:=List.mem_map.1 hk;exact hnew r hr) hB1.size)
theorem RC (v:Value) (M:List (List jl)) (w:World) (hv:jT w v M) (hT:∀r∈M,∀l∈r,xd l) (hG:jK w) (hok:jG M=0→ji M=M.length→U0 (ji M) (M.map jg)):
  Calls Tryz.prog 25 #[v] w (ND M w):=by
 have RR:=hid (KZ v M w hv hT hG);obtain⟨A,c,rfl,_,_⟩:=hv.form;have HOK:=hid hok;have HG:=hid hG;clear hv hT hG hok;go_enter Tryz.func25,Tryz.ntmps25
 go_wp2_with fail
 refine RR.out.mono ?_;clear RR;rintro e w1 ⟨hB1,⟨hM,g,R,rfl,hg,hnew,hmx,hvals⟩ | ⟨hM,rfl⟩⟩
 ·change j5 w1 g R (ji M) at hmx
  obtain⟨hm1,hn1⟩:=J8 hM;have HM:=hid hM
  have hRl:R.length=M.length:=by rw[←yd R,hvals];simp
  have WD:Hid (Calls Tryz.prog 64 #[.slice (some ⟨g,0,none⟩) M.length M.length] w1 fun e w'=>e = .returned (.int .i64 (ji M:Nat))∧w1=w'):=hid (by
   have h:=Q6 g M.length (ji M) R w1 hmx;rw[hRl] at h;by_cases hR:R=[]
   ·rw[if_pos hR] at h
    have:M=[]:=List.length_eq_zero_iff.1 (by rw[←hRl,hR];rfl)
    have h2:ji M=0:=by rw[this];rfl
    rw[h2];exact h
   ·rw[if_neg hR] at h;exact h)
  have HB1:=hid hB1;by_cases hsq:ji M=M.length
  ·have hsq':(((ji M:Nat):Int) != (M.length:Int))=false:=by simp;omega
   obtain⟨hok1,hok2,hok3⟩:=HOK.out hM hsq;have DT:=hid (NF g M.length (ji M) R w1 hmx (by omega) (by omega) (by omega) (by rw[hvals];exact hok1) (by rw[hvals];exact hok2));rw[hRl] at DT;have Hvals:=hid hvals;have Hnew:=hid hnew;have HF:=hid hok3;have HSQ:=hid hsq;clear hmx hnew hvals hok1 hok2 hok3 hM hB1 hRl HOK hsq
   go_wp2_with (first | (go_at_call 64;refine WD.out.mono ?_;rintro e w' ⟨rfl,rfl⟩))
   refine DT.out.mono ?_;clear DT WD;rintro e w2 ⟨dv,rfl,hdv,hbs⟩;rw[Hvals.out] at hdv;have hB2:=ZU HB1.out hg Hnew.out hbs;have WR:=hid (YI dv (zc (ji M) (M.map jg)) w2 hdv HF.out.1 HF.out.2 (HG.out.below hB2));have HB2:=hid hB2;obtain⟨s,B1,m1,k1,B2,m2,k2,rfl⟩:=hdv.shape;generalize hde:zc (ji M) (M.map jg)=D at *;have HDE:=hid hde;clear hdv hbs hB2 hde HF
   go_wp2_with fail
   refine WR.out.mono ?_;clear WR;rintro e w3 ⟨rfl,hB3⟩;have HB3:=hid (HB2.out.trans (hB3.mono HB2.out.size));clear hB3
   have hend:∃(t:ByteArray) (k:Int),ye D = .returned (.tuple #[.string t,.int .i64 k]):=by
    unfold ye;split
    ·exact⟨_,_,rfl⟩
    ·exact⟨_,_,rfl⟩
   obtain⟨t,k,hend⟩:=hend;have HE:=hid hend;rw[hend];clear hend
   go_wp2
   go_ret2;exact⟨HB3.out,.inl ⟨HM.out,HSQ.out,by rw[HDE.out,HE.out];rfl⟩⟩
  ·have hsq':(((ji M:Nat):Int) != (M.length:Int))=true:=by simp;omega
   have HSQ:=hid hsq;clear hmx hnew hvals hM hB1 hRl HOK hsq
   go_wp2_with (first | (go_at_call 64;refine WD.out.mono ?_;rintro e w' ⟨rfl,rfl⟩))
   go_ret2;exact⟨HB1.out,.inr (.inl ⟨HM.out,HSQ.out,rfl⟩)⟩
 ·have HX:=hid hM
  have hne:(jG M != 0)=true:=by simpa using hM
  clear HOK hM;generalize hec:jG M=ec at *;have HEC:=hid hec;clear hec
  go_wp2
  go_ret2;exact⟨hB1,.inr (.inr ⟨by rw[HEC.out];exact HX.out,by rw[HEC.out];rfl⟩)⟩
def xu (L:List jl) (n:Nat):Int:=if L.length≠n then 2 else ky L
def OI (L:List jl) (n:Nat) (w:World) (e:Ending) (w':World):Prop:=
 Below w.heap.size w w'∧((xu L n=0∧L.length=n ∧ ∃g es,e = .returned (.tuple #[.slice (some ⟨g,0,none⟩) n n,.int .i64 0])∧w.heap.size≤g∧jq w' g es (jg L))∨(xu L n≠0∧e = .returned (.tuple #[jn,.int .i64 (xu L n)])))
theorem Mi (v:Value) (L:List jl) (n:Nat) (w:World) (hv:jD w v (jN L)) (hn:n≤1000000) (hT:∀l∈L,xd l) (hG:jK w):
  Calls Tryz.prog 68 #[v,.int .i64 n] w (OI L n w):=by
 have hv':=hv;obtain⟨A,c,rfl,_,hc2⟩:=hv'.form;simp only[kT] at hc2 hv ⊢;clear hv';by_cases hl:L.length=n
 ·have hl':((L.length:Int) != (n:Int))=false:=by simp;omega
  have HS:Hid (xu L n=ky L):=hid (by unfold xu;rw[if_neg (by simpa using hl)]);have CV:=hid (VG _ L w hv (by omega) hT hG);have HL:=hid hl;clear hv hT hG hl;go_enter Tryz.func68,Tryz.ntmps68
  go_wp2_with fail
  refine CV.out.mono ?_;clear CV;rintro e w1 ⟨hB1,⟨hib,gn,esn,rfl,hg,hO1⟩ | ⟨hib,rfl⟩⟩
  ·have HO:=hid hO1
   have HI:=hid hib;clear hO1 hib
   go_wp2
   go_ret2;exact⟨hB1,.inl ⟨by rw[HS.out];exact HI.out,HL.out,gn,esn,by rw[←HL.out];rfl,hg,HO.out⟩⟩
  ·have HI:=hid hib
   clear hib;generalize hec:ky L=ec at *
   go_wp2
   go_ret2;exact⟨hB1,.inr ⟨by rw[HS.out];exact HI.out,by rw[HS.out];rfl⟩⟩
 ·have hl':((L.length:Int) != (n:Int))=true:=by simp;omega
  have HS:Hid (xu L n=2):=hid (by unfold xu;rw[if_pos hl]);clear hv hT hG hl;go_enter Tryz.func68,Tryz.ntmps68
  go_wp2
  go_ret2;exact⟨Below.refl _ _,.inr ⟨by rw[HS.out];decide,by rw[HS.out];rfl⟩⟩
def qE (M:List (List jl)) (b:List jl):Int:=if jG M=0 then xu b M.length else jG M
def Dr (M:List (List jl)) (b:List jl) (w:World) (e:Ending) (w':World):Prop:=
 Below w.heap.size w w'∧((qE M b=0∧jG M=0∧b.length=M.length ∧ ∃(g:Nat) (R:List js) (gb:Nat) (eb:List El),e = .returned (.tuple #[.slice (some ⟨g,0,none⟩) M.length M.length,.slice (some ⟨gb,0,none⟩) M.length M.length,.int .i64 0]) ∧
   w.heap.size≤g∧(∀r∈R,w.heap.size≤r.1)∧j5 w' g R (ji M)∧jv R=M.map jg∧w.heap.size≤gb∧jq w' gb eb (jg b)) ∨
  (qE M b≠0 ∧ ∃v,e = .returned (.tuple #[v,jn,.int .i64 (qE M b)])))
theorem Mf (v u:Value) (M:List (List jl)) (b:List jl) (w:World) (hv:jT w v M) (hu:jD w u (jN b)) (hT:∀r∈M,∀l∈r,xd l) (hTb:∀l∈b,xd l) (hG:jK w):
  Calls Tryz.prog 61 #[v,u] w (Dr M b w):=by
 have RR:=hid (KZ v M w hv hT hG);obtain⟨A,c,rfl,_,_⟩:=hv.form;have RS:=hid (fun (hl:M.length≤1000000) W (hw:Below w.heap.size w W)=>Mi u b M.length W (hu.below hw) hl hTb (hG.below hw));obtain⟨A2,c2,rfl,_,_⟩:=hu.form;simp only[kT] at RS ⊢;clear hv hu hT hTb hG;go_enter Tryz.func61,Tryz.ntmps61
 go_wp2_with fail
 refine RR.out.mono ?_;clear RR;rintro e w1 ⟨hB1,⟨hM,g,R,rfl,hg,hnew,hmx,hvals⟩ | ⟨hM,rfl⟩⟩
 ·change j5 w1 g R (ji M) at hmx
  have RS2:=hid (RS.out (by have:=(J8 hM).1;omega) w1 hB1);have HE:Hid (qE M b=xu b M.length):=hid (by unfold qE;rw[if_pos hM]);have HM:=hid hM;have HB1:=hid hB1;have Hmx:=hid hmx;have Hnew:=hid hnew;have Hvals:=hid hvals;clear RS hM hB1 hmx hnew hvals
  go_wp2_with fail
  refine RS2.out.mono ?_;clear RS2;rintro e w2 ⟨hB2,⟨hs,hl,gb,eb,rfl,hgb,hO⟩ | ⟨hs,rfl⟩⟩
  ·have HS:=hid hs
   have HL:=hid hl;have HO:=hid hO;have HB2:=hid (HB1.out.trans (hB2.mono HB1.out.size));have Hmx2:=hid (Hmx.out.below hB2);have hgbw:w.heap.size≤gb:=Qap HB1.out.size hgb;clear hs hl hO hB2
   go_wp2
   go_ret3;exact⟨HB2.out,.inl ⟨by rw[HE.out];exact HS.out,HM.out,HL.out,g,R,gb,eb,rfl,hg,Hnew.out,Hmx2.out,Hvals.out,hgbw,HO.out⟩⟩
  ·have HS:=hid hs
   have HB2:=hid (HB1.out.trans (hB2.mono HB1.out.size));clear hs hB2;generalize hec:xu b M.length=ec at *
   go_wp2
   go_ret3;exact⟨HB2.out,.inr ⟨by rw[HE.out];exact HS.out,_,by rw[HE.out];rfl⟩⟩
 ·have HX:=hid hM
  have HE:Hid (qE M b=jG M):=hid (by unfold qE;rw[if_neg hM])
  have hne:(jG M != 0)=true:=by simpa using hM
  clear hM RS;generalize hec:jG M=ec at *
  go_wp2
  go_ret3;exact⟨hB1,.inr ⟨by rw[HE.out];exact HX.out,_,by rw[HE.out];rfl⟩⟩
attribute [local go_sem ↓] Go.wp_at_zero Go.wp_at_succ
def yb (L P:List Rat):Nat→Rat
 | 0=>0
 | k+1=>yb L P k+L[k]?.getD 0*P[k]?.getD 0
def YQ (L P:List Rat):Prop:=∀k,k<L.length→kI (L[k]?.getD 0)∧kI (P[k]?.getD 0)∧yf (yb L P k) (L[k]?.getD 0*P[k]?.getD 0)
theorem FA (w:World) (b1 b2 n c1 c2:Nat) (es1 es2:List El) (L P:List Rat) (h1:jq w b1 es1 L) (h2:jq w b2 es2 P) (hn:n=L.length) (hn2:L.length=P.length) (hn1:n≤1000000) (hok:YQ L P):
  Calls Tryz.prog 70 #[.slice (some ⟨b1,0,none⟩) n c1,.slice (some ⟨b2,0,none⟩) n c2] w (qR (yb L P n) w):=by
 have H1:=hid h1;have H2:=hid h2;have HN:=hid hn;have HN2:=hid hn2;have HOK:=hid hok;have HO0:=hid (ja.make w 69 [.bool false,.slice none 0 0,.slice none 0 0]);have RO:=hid (fun W=>(by simpa using KX 0 W (by omega) (by omega):Calls Tryz.prog 46 #[.int .i64 0] W (qR 0 W)));clear h1 h2 hn hn2 hok;go_enter Tryz.func70,Tryz.ntmps70
 go_wp2_with fail
 refine(RO.out _).mono ?_;rintro e w1 ⟨zv,rfl,hzv,hB1⟩;obtain⟨zs,Z1,zn1,zc1,Z2,zn2,zc2,rfl⟩:=hzv.shape;have hal0:Below w.heap.size w (w.alloc (.cells #[.bool false,.slice none 0 0,.slice none 0 0] 69)):=(Below.refl _ _).alloc (Nat.le_refl _) _;have hB01:Below w.heap.size w w1:=hal0.trans (hB1.mono hal0.size);have HO1:=hid (HO0.out.below hB1 HO0.out.lt);have hal:Below w1.heap.size w1 (w1.alloc (.cells #[.bool zs,.slice Z1 zn1 zc1,.slice Z2 zn2 zc2] 69)):=(Below.refl _ _).alloc (Nat.le_refl _) _
 have HV:Hid (∃s B1 m1 k1 B2 m2 k2,jq (w1.alloc (.cells #[.bool zs,.slice Z1 zn1 zc1,.slice Z2 zn2 zc2] 69)) w1.heap.size [(s,.slice B1 m1 k1,.slice B2 m2 k2)] [yb L P 0]):=hid ⟨zs,Z1,zn1,zc1,Z2,zn2,zc2,ja.make w1 _ [.bool zs,.slice Z1 zn1 zc1,.slice Z2 zn2 zc2],Nat.le_refl _,fun e' he'=>by simp at he';subst he';exact⟨jr _ _ _,jr _ _ _⟩,fun i e' q h1 h2=>by
   cases i with
   | zero=>simp at h1 h2;subst h1 h2;exact hzv.below hal
   | succ i=>simp at h1⟩
 have HB2:=hid (hB01.trans (hal.mono hB01.size));have HO2:=hid (HO1.out.below hal HO1.out.lt);have hvb:w.heap.size<w1.heap.size:=HO1.out.lt;have hRl1:=H1.out.own.lt;have hRl2:=H2.out.own.lt;clear hzv hB1 hal0 hB01 hal HO0 HO1 RO
 go_wp2_with fail
 obtain⟨W2,hW2⟩:∃W2,W2=w1.alloc (.cells #[.bool zs,.slice Z1 zn1 zc1,.slice Z2 zn2 zc2] 69):=⟨_,rfl⟩
 rw[←hW2] at HV HB2 HO2;rw[←hW2];clear hW2;generalize w1.heap.size=vb at *
 go_loopg [11] n (fun gh ix wx=>∃i:Nat,ix = .int .i64 i∧i+gh=n∧Hid (Below w.heap.size w wx)∧Hid (ja wx w.heap.size 69 [.bool false,.slice none 0 0,.slice none 0 0])∧Hid (∃s B1 m1 k1 B2 m2 k2,jq wx vb [(s,.slice B1 m1 k1,.slice B2 m2 k2)] [yb L P i]))
 case atStart=>exact⟨0,rfl,by omega,HB2,HO2,HV⟩
 case round=>
  clear HB2 HO2 HV;obtain⟨i,rfl,hi,hWx,hOx,hVx⟩:=hrel;obtain⟨vs,V1,vn1,vc1,V2,vn2,vc2,hV⟩:=hVx.out;obtain⟨v0,v1,v2,u0,u1,u2⟩:=hV.own.three;have hvl:=hV.own.lt;have HV:=hid hV;clear hV hVx
  cases gk with
  | zero=>
   have hin3:¬((i:Int)<(n:Int)):=by omega
   obtain⟨e0,e1,e2,f0,f1,f2⟩:=hOx.out.three;have hrt:=HV.out.num 0 _ _ rfl rfl;rw[show i=n by omega] at hrt;have HF:=hid (Up (s:=[]) hrt hOx.out (jO.of_below (hWx.out.mono (Nat.le_refl _))) (Nat.le_refl _));have HBf:=hid (((hWx.out.setCell (p:=⟨w.heap.size,0,none⟩) (Nat.le_refl _) (.bool vs)).setCell (p:=⟨w.heap.size,1,none⟩) (Nat.le_refl _) (.slice V1 vn1 vc1)).setCell (p:=⟨w.heap.size,2,none⟩) (Nat.le_refl _) (.slice V2 vn2 vc2));have hol:=hOx.out.lt;clear hrt
   go_wp2
   exact bodyPost_ret (v:= .agg #[.bool vs,.slice V1 vn1 vc1,.slice V2 vn2 vc2]) (by simp[results,Tryz.results70,go_sem,e0,e1,e2]) rfl ⟨_,rfl,HF.out.1,HBf.out⟩
  | succ gh2=>
   have hil:i<n:=by omega
   have hil':(i:Int)<(n:Int):=by omega
   have hiL:i<L.length:=by rw[←HN.out];exact hil
   have hR1:=H1.out.below hWx.out;have hR2:=H2.out.below hWx.out;obtain⟨ea,A1,an1,ac1,A2,an2,ac2,zz0,hea,hrta,p0,p1,p2,zz1,zz2,zz3⟩:=hR1.at_ (j:=i) hiL;clear zz0 zz1 zz2 zz3;obtain⟨eb,Q1,qn1,qc1,Q2,qn2,qc2,zz0,heb,hrtb,q0,q1,q2,zz1,zz2,zz3⟩:=hR2.at_ (j:=i) (by rw[←HN2.out];exact hiL);clear zz0 zz1 zz2 zz3;obtain⟨as_,a1,a2⟩:=ea
   have hea':a1 = .slice A1 an1 ac1∧a2 = .slice A2 an2 ac2:=by simpa using hea
   obtain⟨rfl,rfl⟩:=hea';obtain⟨bs_,b3,b4⟩:=eb
   have heb':b3 = .slice Q1 qn1 qc1∧b4 = .slice Q2 qn2 qc2:=by simpa using heb
   obtain⟨rfl,rfl⟩:=heb';clear hea heb;unfold qk at hrta hrtb;dsimp only at p0 q0 hrta hrtb;have hb1l:=hR1.own.lt;have hb2l:=hR2.own.lt;obtain⟨fo1,fo2,fo3⟩:=HOK.out i hiL;have hal3:Below wr.heap.size wr (wr.alloc (.cells #[.bool as_,.slice A1 an1 ac1,.slice A2 an2 ac2] 69)):=(Below.refl _ _).alloc (Nat.le_refl _) _;have hPX:=ja.make wr 69 [.bool as_,.slice A1 an1 ac1,.slice A2 an2 ac2];have Hi:=hid hi
   go_upto_region 5 with fail
   obtain⟨W3,hW3⟩:∃W3,W3=wr.alloc (.cells #[.bool as_,.slice A1 an1 ac1,.slice A2 an2 ac2] 69):=⟨_,rfl⟩
   rw[←hW3] at hal3 hPX;rw[←hW3];clear hW3;have hV3:=HV.out.below hal3;obtain⟨x0,x1,x2,y0,y1,y2⟩:=hV3.own.three;obtain⟨t0,t1,t2,zz1,zz2,zz3⟩:=hPX.three;clear zz1 zz2 zz3;have s0:=(hal3.cell (p:=⟨b2,i*3,none⟩) hb2l).trans q0;have s1:=(hal3.cell (p:=⟨b2,i*3+1,none⟩) hb2l).trans q1;have s2:=(hal3.cell (p:=⟨b2,i*3+2,none⟩) hb2l).trans q2;have hvl3:=hV3.own.lt;have hpx3:=hPX.lt;have hb2l3:b2<W3.heap.size:=Qac hb2l hal3.size;have TM:=hid (fun (W:World) (h:Rt W (.agg #[.bool as_,.slice A1 an1 ac1,.slice A2 an2 ac2]) (L[i]?.getD 0)) (h':Rt W (.agg #[.bool bs_,.slice Q1 qn1 qc1,.slice Q2 qn2 qc2]) (P[i]?.getD 0))=>Md _ _ _ _ W h h' fo1.1 fo1.2 fo2.1 fo2.2);have PL:=hid (fun (W:World) (u:Value) (h:Rt W (.agg #[.bool vs,.slice V1 vn1 vc1,.slice V2 vn2 vc2]) (yb L P i)) (h':Rt W u (L[i]?.getD 0*P[i]?.getD 0))=>Mb _ u _ _ W h h' fo3);have XA:=hid (hrta.below hal3);have XB:=hid (hrtb.below hal3);have XV:=hid (hV3.num 0 _ _ rfl rfl);have HV3:=hid hV3;have HW3:=hid (hWx.out.trans (hal3.mono hWx.out.size));have HO3:=hid (hOx.out.below hal3 hOx.out.lt);generalize wr.heap.size=px at *;clear v0 v1 v2 u0 u1 u2 p0 p1 p2 q0 q1 q2 hrta hrtb hR1 hR2 hal3 hPX hV3 fo1 fo2 fo3 hi HV hOx hWx hvl hb1l hb2l
   go_region_with (first
    | (go_at_call 98;refine(TM.out _ (XA.out.below (Below.refl _ _).drew) (XB.out.below (Below.refl _ _).drew)).mono ?_;rintro ee w3 ⟨tv,rfl,htv,hB3⟩;obtain⟨s5,A5,n5,c5,A6,n6,c6,rfl⟩:=htv.shape;have g0:=(hB3.cell (p:=⟨vb,0,none⟩) hvl3).trans x0;have g1:=(hB3.cell (p:=⟨vb,1,none⟩) hvl3).trans x1;have g2:=(hB3.cell (p:=⟨vb,2,none⟩) hvl3).trans x2;have i0:=(hB3.frozen (p:=⟨vb,0,none⟩) hvl3).trans y0;have i1:=(hB3.frozen (p:=⟨vb,1,none⟩) hvl3).trans y1;have i2:=(hB3.frozen (p:=⟨vb,2,none⟩) hvl3).trans y2;have hvl4:vb<w3.heap.size:=Qac hvl3 hB3.size;have HT3:=hid htv;have HB3:=hid hB3;clear htv hB3)
    | (go_at_call 116;refine(PL.out _ _ (XV.out.below (xJ HB3.out)) HT3.out).mono ?_;rintro ee w4 ⟨mv,rfl,hmv,hB4⟩;obtain⟨s7,A7,n7,c7,A8,n8,c8,rfl⟩:=hmv.shape;have k0:=(hB4.cell (p:=⟨vb,0,none⟩) hvl4).trans g0;have k1:=(hB4.cell (p:=⟨vb,1,none⟩) hvl4).trans g1;have k2:=(hB4.cell (p:=⟨vb,2,none⟩) hvl4).trans g2;have l0:=(hB4.frozen (p:=⟨vb,0,none⟩) hvl4).trans i0;have l1:=(hB4.frozen (p:=⟨vb,1,none⟩) hvl4).trans i1;have l2:=(hB4.frozen (p:=⟨vb,2,none⟩) hvl4).trans i2;have HM4:=hid hmv;have HB4:=hid hB4;clear hmv hB4))
   all_goals (
    have HB14:Hid (Below W3.heap.size W3 w4):=hid ((xJ HB3.out).trans (HB4.out.mono HB3.out.size))
    have HVt:Hid (∃s B1 m1 k1 B2 m2 k2,jq (((w4.setCell ⟨vb,0,none⟩ (.bool s7)).setCell ⟨vb,1,none⟩ (.slice A7 n7 c7)).setCell ⟨vb,2,none⟩ (.slice A8 n8 c8)) vb [(s,.slice B1 m1 k1,.slice B2 m2 k2)] [yb L P (i+1)]):=hid (by
     have:=(HV3.out.below HB14.out).put (j:=0) (e:=(s7,.slice A7 n7 c7,.slice A8 n8 c8)) (q:=yb L P (i+1)) (by simp) HM4.out
     exact⟨_,_,_,_,_,_,_,this⟩)
    have HWt:=hid ((((HW3.out.trans (HB14.out.mono HW3.out.size)).setCell (p:=⟨vb,0,none⟩) (Qbo hvb) (.bool s7)).setCell (p:=⟨vb,1,none⟩) (Qbo hvb) (.slice A7 n7 c7)).setCell (p:=⟨vb,2,none⟩) (Qbo hvb) (.slice A8 n8 c8))
    have hne:w.heap.size≠vb:=by omega
    have HOt:=hid ((HO3.out.below HB14.out HO3.out.lt).but (jk.set3 w4 vb 0 (.bool s7) (.slice A7 n7 c7) (.slice A8 n8 c8)) hne);clear x0 x1 x2 y0 y1 y2 t0 t1 t2 s0 s1 s2 g0 g1 g2 i0 i1 i2 k0 k1 k2 l0 l1 l2 HM4 HT3 HB3 HB4 TM PL XA XB XV HB14 HW3 HO3 HV3 hne
    go_wp2
    go_roundg gh2
    case rel=>exact⟨i+1,by go_num,by have:=Hi.out;omega,HWt,HOt,HVt⟩
    case measure=>omega)
end Go.Proofs.YteagkgagdelklaaGreatDoor
namespace Go.Proofs.YteagkgagdelklaaGreatDoor
open Go.RowKit Go.Lib
def xZ (n:Nat) (M:List (List Rat)):List (List Rat):=((j4 jc n M).rows.take (j4 jc n M).cols.length).map (·.2.2)
def T6 (M:List (List jl)) (w:World) (e:Ending) (w':World):Prop:=Below w.heap.size w w'∧e = .returned (.int .i64 (jG M))
def Oa (M:List (List jl)) (w:World) (e:Ending) (w':World):Prop:=
 Below w.heap.size w w'∧((jG M=0∧e = .returned (.tuple #[.int .i64 ((j4 jc (ji M) (M.map jg)).cols.length:Nat),.int .i64 0]))∨(jG M≠0∧e = .returned (.tuple #[.int .i64 0,.int .i64 (jG M)])))
def Di (M:List (List jl)) (w:World) (e:Ending) (w':World):Prop:=
 Below w.heap.size w w'∧((jG M=0∧ZP (xZ (ji M) (M.map jg)) w e w')∨(jG M≠0∧e = .returned (.tuple #[jn,.int .i64 (jG M)])))
theorem j5.rowsAt {w:World} {g c n:Nat} {R:List js} (h:j5 w g R n) {k:Nat} (hk:k≤R.length) (hc:R.length≤c) (hR:R.length≤1000000):Xe w (.slice (some ⟨g,0,none⟩) k c) ((R.take k).map (·.2.2)):=by
 have hl:((R.take k).map (jV n)).length=k:=by rw[Qar,Qak,QaJ hk]
 refine⟨(R.take k).map (jV n),⟨some ⟨g,0,none⟩,c,by rw[hl],by rw[hl];omega,by rw[hl];omega,fun _=>⟨g,0,rfl,h.own.lt,fun j hj=> ?_⟩⟩,by simp,fun i L hL=> ?_⟩
 ·rw[hl] at hj
  rw[Qbi,h.own.cell,Qao,Qao,QbQ hj]
 ·rw[Qao] at hL
  cases hb:(R.take k)[i]? with
  | none=>rw[hb] at hL;cases hL
  | some x=>
   rw[hb] at hL;obtain rfl:=QaE hL;have hx:=Qbp (Qab hb);obtain⟨⟨es,he⟩,hl,hcap,_⟩:=h.row x hx;exact⟨x.1,x.2.1,es,by rw[Qao,hb,QaC,hl];rfl,by rw[hl];exact hcap,he⟩
theorem Rx (v:Value) (M:List (List jl)) (w:World) (hv:jT w v M) (hT:∀r∈M,∀l∈r,xd l) (hG:jK w):
  Calls Tryz.prog 10 #[v] w (T6 M w):=by
 have RR:=hid (KZ v M w hv hT hG);obtain⟨A,c,rfl,_,_⟩:=hv.form;clear hv hT hG;go_enter Tryz.func10,Tryz.ntmps10
 go_wp2_with fail
 refine RR.out.mono ?_;clear RR;rintro e w1 ⟨hB1,⟨hM,g,R,rfl,hg,hnew,hmx,hvals⟩ | ⟨hM,rfl⟩⟩
 ·have HM:=hid hM
  have HB1:=hid hB1;clear hM hB1 hg hnew hmx hvals
  go_wp2
  go_ret;exact⟨HB1.out,by rw[HM.out];rfl⟩
 ·have HB1:=hid hB1
  clear hM hB1;generalize hec:jG M=ec at *;have HEC:=hid hec;clear hec
  go_wp2
  go_ret;exact⟨HB1.out,by rw[HEC.out];rfl⟩
theorem U4 (v:Value) (M:List (List jl)) (w:World) (hv:jT w v M) (hT:∀r∈M,∀l∈r,xd l) (hG:jK w) (hok:jG M=0→yA (ji M) (M.map jg)):
  Calls Tryz.prog 8 #[v] w (Oa M w):=by
 have RR:=hid (KZ v M w hv hT hG);obtain⟨A,c,rfl,_,_⟩:=hv.form;have HOK:=hid hok;clear hv hT hG hok;go_enter Tryz.func8,Tryz.ntmps8
 go_wp2_with fail
 refine RR.out.mono ?_;clear RR;rintro e w1 ⟨hB1,⟨hM,g,R,rfl,hg,hnew,hmx,hvals⟩ | ⟨hM,rfl⟩⟩
 ·change j5 w1 g R (ji M) at hmx
  obtain⟨hm1,hn1⟩:=J8 hM;have HM:=hid hM
  have hRl:R.length=M.length:=by rw[←yd R,hvals];simp
  have EL:=hid (Qs g M.length (ji M) R w1 hmx (by omega) (by omega) (by omega) ((HOK.out hM).rows hvals));rw[hRl] at EL;have HS:Hid (ks (jy jc (ji M) R.length 0 ⟨R,[],[],false⟩) (j4 jc (ji M) (M.map jg))):=hid (J3 (F:=jc) hvals (ji M));have Hnew:=hid hnew;have HB1:=hid hB1;clear hmx hnew hvals hM hB1 hRl HOK
  go_wp2_with fail
  refine EL.out.mono ?_;clear EL;rintro e w2 ⟨S,hS,cv,pv,rfl,_,hcv,hpv,hl1,hl2,hl3,_,hbs⟩;obtain⟨A1,k1,rfl,_,_⟩:=jX hcv;obtain⟨A2,k2,rfl,_,_⟩:=hpv.form;have HB2:=hid (ZU HB1.out hg Hnew.out hbs);have Hl:Hid (S.piv.length=(j4 jc (ji M) (M.map jg)).cols.length):=hid (by rw[hl1,hS];exact congrArg List.length HS.out.cols);clear hS hcv hpv hl1 hl2 hl3 hbs Hnew HB1 hg
  have hfd:∀W,(Instr.field 74 (.agg #[.slice (some ⟨g,0,none⟩) S.piv.length M.length,.slice A1 S.cols.length k1,.slice A2 S.piv.length k2,.bool S.odd]) 0).run Tryz.prog W = .ok (.slice (some ⟨g,0,none⟩) S.piv.length M.length) W:=fun _=>by kernel_rfl
  go_wp2
  go_ret2;exact⟨HB2.out,.inl ⟨HM.out,by rw[←Hl.out];rfl⟩⟩
 ·have HX:=hid hM
  have hne:(jG M != 0)=true:=by simpa using hM
  clear HOK hM;generalize hec:jG M=ec at *;have HEC:=hid hec;clear hec
  go_wp2
  go_ret2;exact⟨hB1,.inr ⟨by rw[HEC.out];exact HX.out,by rw[HEC.out];rfl⟩⟩
theorem U1 (v:Value) (M:List (List jl)) (w:World) (hv:jT w v M) (hT:∀r∈M,∀l∈r,xd l) (hG:jK w) (hok:jG M=0→yA (ji M) (M.map jg)∧xm (j4 jc (ji M) (M.map jg))):
  Calls Tryz.prog 7 #[v] w (Di M w):=by
 have RR:=hid (KZ v M w hv hT hG);obtain⟨A,c,rfl,_,_⟩:=hv.form;have HOK:=hid hok;have HG:=hid hG;clear hv hT hG hok;go_enter Tryz.func7,Tryz.ntmps7
 go_wp2_with fail
 refine RR.out.mono ?_;clear RR;rintro e w1 ⟨hB1,⟨hM,g,R,rfl,hg,hnew,hmx,hvals⟩ | ⟨hM,rfl⟩⟩
 ·change j5 w1 g R (ji M) at hmx
  obtain⟨hm1,hn1⟩:=J8 hM;have HM:=hid hM
  have hRl:R.length=M.length:=by rw[←yd R,hvals];simp
  have EL:=hid (Qs g M.length (ji M) R w1 hmx (by omega) (by omega) (by omega) ((HOK.out hM).1.rows hvals));rw[hRl] at EL;have HF:=hid (HOK.out hM).2;have HS:Hid (ks (jy jc (ji M) R.length 0 ⟨R,[],[],false⟩) (j4 jc (ji M) (M.map jg))):=hid (J3 (F:=jc) hvals (ji M));have Hnew:=hid hnew;have HB1:=hid hB1;have HRl:=hid hRl;clear hmx hnew hvals hM hB1 hRl HOK
  go_wp2_with fail
  refine EL.out.mono ?_;clear EL;rintro e w2 ⟨S,hS,cv,pv,rfl,hmx2,hcv,hpv,hl1,hl2,hl3,_,hbs⟩;obtain⟨A1,k1,rfl,_,_⟩:=jX hcv;obtain⟨A2,k2,rfl,_,_⟩:=hpv.form;have hB2:=ZU HB1.out hg Hnew.out hbs
  have hSm:ks S (j4 jc (ji M) (M.map jg)):=by rw[hS];exact HS.out
  have hcl:S.piv.length=(j4 jc (ji M) (M.map jg)).cols.length:=by rw[hl1];exact congrArg List.length hSm.cols
  have hrl:S.rows.length=M.length:=hl3.trans HRl.out;have hRA:=hmx2.rowsAt (c:=M.length) hl2 (by omega) (by omega)
  have hEq:(S.rows.take S.piv.length).map (·.2.2)=xZ (ji M) (M.map jg):=by
   have h:=hSm.rows;unfold jv at h;unfold xZ;rw[hcl,List.map_take,List.map_take,h]
  have hlen:(xZ (ji M) (M.map jg)).length=S.piv.length:=by rw[←hEq,Qar,Qak,QaJ hl2]
  rw[hEq] at hRA;have hFS:=xm.same hSm HF.out
  have WR:=hid (Rc _ _ w2 hRA (by rw[hlen];omega) (fun L hL=>by
   rw[←hEq] at hL;obtain⟨r,hr,rfl⟩:=List.mem_map.1 hL;have hr:=Qbp hr
   exact⟨by have:=(hmx2.row r hr).2.1;omega,fun q hq=>hFS r hr q hq⟩) (HG.out.below hB2))
  have HB2:=hid hB2;clear hS hmx2 hcv hpv hl1 hl2 hl3 hbs hB2 hSm hcl hrl hRA hEq hlen hFS Hnew HB1 hg HS HF HRl
  have hfd:∀W,(Instr.field 74 (.agg #[.slice (some ⟨g,0,none⟩) S.piv.length M.length,.slice A1 S.cols.length k1,.slice A2 S.piv.length k2,.bool S.odd]) 0).run Tryz.prog W = .ok (.slice (some ⟨g,0,none⟩) S.piv.length M.length) W:=fun _=>by kernel_rfl
  generalize hKe:xZ (ji M) (M.map jg)=K at *;have HKe:=hid hKe;clear hKe
  go_wp2_with fail
  refine WR.out.mono ?_;clear WR;rintro e w3 ⟨hB3,⟨hsh,g3,B3,rfl,hg3,hT3⟩ | ⟨hsh,rfl⟩⟩
  ·have HX:=hid hsh
   have HT3:=hid hT3;have HB3:=hid (HB2.out.trans (hB3.mono HB2.out.size));have hgg:w.heap.size≤g3:=Qap HB2.out.size hg3;clear hsh hT3 hB3
   go_wp2
   go_ret2;exact⟨HB3.out,.inl ⟨HM.out,by rw[HKe.out];exact .inl ⟨HX.out,g3,B3,rfl,hgg,HT3.out.mono HB2.out.size⟩⟩⟩
  ·have HX:=hid hsh
   have HB3:=hid (HB2.out.trans (hB3.mono HB2.out.size));clear hsh hB3
   go_wp2
   go_ret2;exact⟨HB3.out,.inl ⟨HM.out,by rw[HKe.out];exact .inr ⟨HX.out,rfl⟩⟩⟩
 ·have HX:=hid hM
  have hne:(jG M != 0)=true:=by simpa using hM
  clear HOK hM;generalize hec:jG M=ec at *;have HEC:=hid hec;clear hec
  go_wp2
  go_ret2;exact⟨hB1,.inr ⟨by rw[HEC.out];exact HX.out,by rw[HEC.out];rfl⟩⟩
def QW (n:Nat) (M:List (List Rat)) (b:List Rat):jw Rat:=j4 jc (n+1) (yq M b)
def Kh (n:Nat) (M:List (List Rat)) (b:List Rat):List Rat:=yP (QW n M b) n (QW n M b).cols.length
def Va (n:Nat) (M:List (List Rat)) (b:List Rat):Prop:=yA (n+1) (yq M b) ∧ ∀q∈Kh n M b,kI q
def Og (L:List Rat) (w:World) (e:Ending) (w':World):Prop:=
 ((∀q∈L,¬k8 q) ∧ ∃g,e = .returned (.tuple #[.slice (some ⟨g,0,none⟩) L.length L.length,.int .i64 0])∧w.heap.size≤g∧ja w' g 37 (jN (L.map jh)))∨((∃q∈L,k8 q)∧e = .returned (.tuple #[jn,.int .i64 4]))
def O3 (M:List (List jl)) (b:List jl) (w:World) (e:Ending) (w':World):Prop:=
 Below w.heap.size w w'∧((qE M b=0∧jG M=0∧b.length=M.length∧((ji M∈(QW (ji M) (M.map jg) (jg b)).cols∧e = .returned (.tuple #[jn,.int .i64 21]))∨(ji M ∉ (QW (ji M) (M.map jg) (jg b)).cols∧Og (Kh (ji M) (M.map jg) (jg b)) w e w'))) ∨
  (qE M b≠0∧e = .returned (.tuple #[jn,.int .i64 (qE M b)])))
theorem Sd (v u:Value) (M:List (List jl)) (b:List jl) (w:World) (hv:jT w v M) (hu:jD w u (jN b)) (hT:∀r∈M,∀l∈r,xd l) (hTb:∀l∈b,xd l) (hG:jK w) (hok:qE M b=0→Va (ji M) (M.map jg) (jg b)):
  Calls Tryz.prog 24 #[v,u] w (O3 M b w):=by
 have RE:=hid (Mf v u M b w hv hu hT hTb hG);have HG:=hid hG;have HOK:=hid hok;obtain⟨A,c,rfl,_,_⟩:=hv.form;obtain⟨A2,c2,rfl,_,_⟩:=hu.form;simp only[kT] at RE ⊢;clear hv hu hT hTb hG hok;go_enter Tryz.func24,Tryz.ntmps24
 go_wp2_with fail
 refine RE.out.mono ?_;clear RE;rintro e w1 ⟨hB1,⟨hE,hM,hbl,g,R,gb,eb,rfl,hg,hnew,hmx,hvals,hgb,hO⟩ | ⟨hE,v1,rfl⟩⟩
 ·obtain⟨hm1,hn1⟩:=J8 hM
  have hRl:R.length=M.length:=by rw[←yd R,hvals];simp
  obtain⟨hok1,hok2⟩:=HOK.out hE
  have SV:=hid (O5 g M.length (ji M) gb M.length R eb (jg b) w1 hmx (by omega) (by omega) (by omega) (fun h=>by
   have:M=[]:=List.length_eq_zero_iff.1 (by rw[←hRl,h];rfl)
   subst this;rfl) hO (by simp[jg];omega) (by simp[jg];omega) (by omega) (by rw[hvals];exact hok1))
  rw[hRl,hvals] at SV;have HE:=hid hE;have HM:=hid hM;have HBl:=hid hbl;have HF:=hid hok2;have HB1:=hid hB1;clear hmx hnew hvals hO hE hM hbl hok1 hok2 hB1 hRl HOK hg hgb
  go_wp2_with fail
  refine SV.out.mono ?_;clear SV;rintro e w2 ⟨hB2,⟨hin,rfl⟩ | ⟨hnin,gs,es,rfl,hgs,hS⟩⟩
  ·have HI:=hid hin
   have HB2:=hid (HB1.out.trans (hB2.mono HB1.out.size));clear hin hB2 HF
   go_wp2
   go_ret2;exact⟨HB2.out,.inl ⟨HE.out,HM.out,HBl.out,.inl ⟨HI.out,rfl⟩⟩⟩
  ·have HI:=hid hnin
   have HB2:=hid (HB1.out.trans (hB2.mono HB1.out.size));have hsl:(Kh (ji M) (M.map jg) (jg b)).length=ji M:=UH _ _ _;have WR:=hid (Rb gs (ji M) (ji M) es (Kh (ji M) (M.map jg) (jg b)) w2 hS hsl.symm (by omega) (Nat.le_refl _) HF.out (HG.out.below HB2.out));clear hnin hB2 hS HF;generalize hde:Kh (ji M) (M.map jg) (jg b)=D at *;have HDE:=hid hde;clear hde hsl
   go_wp2_with fail
   refine WR.out.mono ?_;clear WR;rintro e w3 ⟨hB3,⟨hok,gn,rfl,hgn,hO3⟩ | ⟨hno,rfl⟩⟩
   ·have HK:=hid hok
    have HO3:=hid hO3;have HB3:=hid (HB2.out.trans (hB3.mono HB2.out.size));have hgw:w.heap.size≤gn:=Qap HB2.out.size hgn;clear hok hO3 hB3
    go_wp2
    go_ret2;exact⟨HB3.out,.inl ⟨HE.out,HM.out,HBl.out,.inr ⟨HI.out,by rw[HDE.out];exact .inl ⟨HK.out,gn,rfl,hgw,HO3.out⟩⟩⟩⟩
   ·have HK:=hid hno
    have HB3:=hid (HB2.out.trans (hB3.mono HB2.out.size));clear hno hB3
    go_wp2
    go_ret2;exact⟨HB3.out,.inl ⟨HE.out,HM.out,HBl.out,.inr ⟨HI.out,by rw[HDE.out];exact .inr ⟨HK.out,rfl⟩⟩⟩⟩
 ·have HX:=hid hE
  have hne:(qE M b != 0)=true:=by simpa using hE
  clear HOK hE;generalize hec:qE M b=ec at *;have HEC:=hid hec;clear hec
  go_wp2
  go_ret2;exact⟨hB1,.inr ⟨by rw[HEC.out];exact HX.out,by rw[HEC.out];rfl⟩⟩
def JR (L:Nat):Prop:=∀x,x<L→jp x
theorem DU {k:Nat} (hk:k≤8000000000000):JR (10^k):=fun _ h=>jp.of_pow h (.inr Nz) hk
section
variable {L X:Nat}
theorem Bq.fit (hL:JR L) {q:Rat} (h:Bq X q) (hX:X<L):kI q:=⟨hL _ (Qax h.1 hX),hL _ (Qax h.2 hX)⟩
theorem FU (l:List UInt8) (h:(j6 l).1≠0):(j6 l).2=0:=by
 revert h;unfold j6 KY
 repeat' split
 all_goals first
  | (intro _;rfl)
  | (intro h;exact absurd rfl h)
theorem Ft (X:Nat):X^5=X*(X*(X*(X*X))):=by
 simp only[QaD,Qb0,Qbd];simp only[Qal]
theorem K7 (hX:2≤X) {e:Nat} (he:1≤e):X≤X^e:=by have:=yM hX he;rwa [Qbc] at this
theorem GL (k:Nat):1≤5^k:=Qcm _ _ (by decide)
theorem Pa (hL:JR L) (hX:2≤X) {S:jw Rat} {row col:Nat} (h:∀r∈S.rows,∀x∈r.2.2,Bq X x) (hd:elPiv jc row col S≠0) (hl:X^5<L):zY row col S:=by
 have hsw:∀r∈j8 row S,∀x∈r.2.2,Bq X x:=by
  intro r hr;unfold j8 at hr;split at hr
  ·exact h r hr
  ·exact h r (Ki hr)
 have hrow:∀i,∀x∈jL (j8 row S) i,Bq X x:=by
  intro i x hx;unfold jL at hx
  cases e:(j8 row S)[i]? with
  | none=>rw[e] at hx;cases hx
  | some r=>rw[e] at hx;exact hsw r (Qab e) x hx
 have hdq:Bq X (elPiv jc row col S):=Bq.at hX (hrow _) col;have hdr:=Zg hX hdq hd (o:=col) (hrow S.cols.length)
 have hP:∀x∈jL (elDiv jc row col S) S.cols.length,Bq (X*X) x:=by
  intro x hx;unfold jL elDiv at hx
  cases e:(j8 row S)[S.cols.length]? with
  | none=>simp[setRow,e] at hx
  | some r=>rw[qG e] at hx;exact hdr x hx
 have h1:X<L:=Qax (K7 hX (by decide)) hl;have h2:X*X<L:=Qax (by have:=yM hX (show 2≤5 by decide);rwa [Nat.pow_two] at this) hl
 have h3:X*(X*X)<L:=Qax (by
  have:=yM hX (show 3≤5 by decide)
  rwa [QaD,Nat.pow_two,Qam] at this) hl
 have hX2:2≤X*X:=Qap hX (Qbw X (by omega));refine⟨fun x hx=>(hrow _ x hx).fit hL h1,fun i r hr hi=> ?_⟩
 have hr0:∀y∈r.2.2,Bq X y:=by
  unfold elDiv at hr;rw[xQ (fun e=>hi e.symm)] at hr;exact hsw r (Qab hr)
 have ho:=Bq.at hX hr0 col;refine⟨ho.fit hL h1,fun j _ _=> ?_⟩;have hp:=Bq.at hX2 hP j;have hm:=ho.mul hp;have ha:=Bq.at hX hr0 j;refine⟨hp.fit hL h2,ha.fit hL h1,hm.fit hL h3,hL _ (Qax ?_ hl)⟩;have e1:=Qbh ha.1 hm.2;have e2:=Qbh hm.1 ha.2;rw[Ft];have e3:X*(X*X)*X=X*(X*(X*X)):=Qam _ _;have e4:2*(X*(X*(X*X)))≤X*(X*(X*(X*X))):=Qas _ hX;omega
theorem Wc {S:jw Rat} {i c:Nat} (h1:S.cols.length≤i) (h2:i<S.rows.length):elPiv jc i c S=jC jc S.rows i c:=by
 unfold elPiv;rw[Zp h2]
 obtain⟨a,ha⟩:∃a,S.rows[i]? =some a:=⟨S.rows[i],Qaa h2⟩
 obtain⟨b,hb⟩:∃b,S.rows[S.cols.length]? =some b:=⟨S.rows[S.cols.length]'(by omega),Qaa _⟩
 unfold jC;rw[qF (Q0 ha hb),qF ha]
theorem Dn (hX:2≤X) {S:jw Rat} {i c:Nat} (h1:S.cols.length≤i) (h2:i<S.rows.length) (h:∀r∈S.rows,∀x∈r.2.2,Bq X x):Bq X (elPiv jc i c S):=by
 rw[Wc h1 h2];unfold jC;refine Bq.at hX (fun x hx=> ?_) c;rw[qF (Qaa h2)] at hx;exact h _ (Qay h2) x hx
theorem Wb (hL:JR L) {n:Nat} :∀(k fr:Nat) (S:jw Rat) (X:Nat),2≤X→(∀r∈S.rows,∀x∈r.2.2,Bq X x)→(∀p∈S.piv,Bq X p)→X^5^k<L →
  qU n k fr S∧(∀r∈(jy jc n k fr S).rows,∀x∈r.2.2,Bq (X^5^k) x)∧(∀p∈(jy jc n k fr S).piv,Bq (X^5^k) p)
 | 0,fr,S,X,hX,h,hp,hl=>⟨trivial,by rw[Qb0,Qbc];exact h,by rw[Qb0,Qbc];exact hp⟩
 | k+1,fr,S,X,hX,h,hq,hl=>by
  have hup:X≤X^5^(k+1):=K7 hX (GL _);unfold qU jy
  cases hp:kK jc S.rows S.cols.length (n-fr) fr with
  | none=>exact⟨trivial,fun r hr x hx=>(h r hr x hx).mono hup,fun p hp=>(hq p hp).mono hup⟩
  | some rc=>
   obtain⟨row,col⟩:=rc;obtain⟨b1,b2,b3,b4,b5⟩:=Ue _ _ hp
   have hd:elPiv jc row col S≠0:=by
    rw[Wc b3 b4];intro e;have hz:jc.isZ (jC jc S.rows row col)=decide (jC jc S.rows row col=0):=rfl;rw[hz,e] at b5;exact absurd b5 (by decide)
   have e5:X^5^(k+1)=(X^5)^5^k:=by rw[←QbY,QaD,Qam]
   have hX5:2≤X^5:=Qap hX (K7 hX (by decide));rw[e5] at hl;have h5l:X^5<L:=Qax (K7 hX5 (GL _)) hl;have hst:=Pa hL hX h hd h5l;have hpb:=(Dn hX b3 b4 h (c:=col)).mono (K7 hX (show 1≤5 by decide))
   obtain⟨i1,i2,i3⟩:=Wb hL k (col+1) (kg jc row col S) (X^5) hX5 (Eh hX h hd) (fun p hp=>by
    rcases List.mem_append.1 hp with hp | hp
    ·exact(hq p hp).mono (K7 hX (by decide))
    ·rw[List.mem_singleton.1 hp];exact hpb) hl
   rw[e5];exact⟨⟨hst,i1⟩,i2,i3⟩
theorem Ua (hL:JR L) {n:Nat} {M:List (List Rat)} (hX:2≤X) (h:∀r∈M,∀x∈r,Bq X x) (hl:X^5^M.length<L):
  yA n M∧xm (j4 jc n M)∧(∀r∈(j4 jc n M).rows,∀x∈r.2.2,Bq (X^5^M.length) x)∧(∀p∈(j4 jc n M).piv,Bq (X^5^M.length) p):=by
 obtain⟨a,b,c⟩:=Wb hL (n:=n) M.length 0 ⟨qX M,[],[],false⟩ X hX (fun r hr x hx=>by
  obtain⟨R,hR,rfl⟩:=List.mem_map.1 hr
  exact h R hR x hx) (by simp) hl
 exact⟨a,fun r hr x hx=>(b r hr x hx).fit hL hl,b,c⟩
theorem Bd (hL:JR L) {n:Nat} {M:List (List Rat)} (hX:2≤X) (h:∀r∈M,∀x∈r,Bq X x) (hl:X^5^M.length<L):YN n M:=by
 obtain⟨a,b,_⟩:=Ua hL (n:=n) (M:=M.map List.reverse) hX (fun r hr x hx=>by
  obtain⟨R,hR,rfl⟩:=List.mem_map.1 hr
  exact h R hR x (List.mem_reverse.1 hx)) (by rw[Qar];exact hl)
 exact⟨a,b⟩
end
theorem F6 {l:List UInt8} {n:Nat} (hl:l.length≤n) (hn:1≤n):Bq (10^n) (j6 l).2:=by
 have h2:2≤10^n:=Qap (by decide) (Qai (show 0<10 by decide) hn);by_cases h:(j6 l).1=0
 ·obtain⟨t,_,_⟩:=Mh l h
  have hd:∀m,(decDigits m).length≤n→m≤10^n:=fun m hm=>by
   have h2:=xf (xr m);rw[Jy] at h2;exact Qbo (Qac h2 (Qai (by decide) hm))
  have ht:=congrArg List.length t;unfold jh at ht;rw[Qaf,Qaf] at ht;refine⟨hd _ (by omega),?_⟩;by_cases hd1:(j6 l).2.den=1
  ·rw[hd1];omega
  ·rw[if_neg hd1,QaR] at ht
   exact hd _ (by omega)
 ·rw[FU l h]
  exact Bq.zero h2
