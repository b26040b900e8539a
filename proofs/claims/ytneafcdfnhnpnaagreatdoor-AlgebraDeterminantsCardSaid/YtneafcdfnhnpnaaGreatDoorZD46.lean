/- Contracts: Determinant, readSide, readEquations, Solve. -/
import Derived.Test.YtneafcdfnhnpnaaGreatDoorZD45
import Derived.Test.YtneafcdfnhnpnaaGreatDoorZD44
import Derived.Test.YtneafcdfnhnpnaaGreatDoorZD40
set_option maxRecDepth 100000
set_option maxHeartbeats 8000000
namespace Go.Proofs.YtneafcdfnhnpnaaGreatDoor
open Go.RowKit Go.Lib
def SQ (M:List (List jn)) (w:World) (e:Ending) (w':World):Prop:=
 Below w.heap.size w w'∧((jT M=0∧jA M=M.length∧e=qS (qx (jA M) (M.map ji)))∨(jT M=0∧jA M≠M.length∧e = .returned (.tuple #[.string ⟨#[]⟩,.int .i64 2]))∨(jT M≠0∧e = .returned (.tuple #[.string ⟨#[]⟩,.int .i64 (jT M)])))
def Qw (n:Nat) (M:List (List Rat)):Prop:=yS n M∧Qx (ko jd n M)∧kv (qx n M)
theorem Ag {w w1 w2:World} {g:Nat} {R:List jr} (hB1:Below w.heap.size w w1) (hg:w.heap.size≤g) (hnew:∀r∈R,w.heap.size≤r.1) (hbs:jL (g::R.map (·.1)) w1 w2):Below w.heap.size w w2:=
 hB1.trans (hbs.toBelow (fun k hk=>by
  rcases List.mem_cons.1 hk with rfl | hk
  ·exact hg
  ·obtain⟨r,hr,rfl⟩:=List.mem_map.1 hk;exact hnew r hr) hB1.size)
theorem Qy (v:Value) (M:List (List jn)) (w:World) (hv:kd w v M) (hT:∀r∈M,∀l∈r,xq l) (hG:jN w) (hok:jT M=0→jA M=M.length→Qw (jA M) (M.map ji)):
  Calls Tryz.prog 83 #[v] w (SQ M w):=by
 have RR:=hid (Zu v M w hv hT hG);obtain⟨A,c,rfl,_,_⟩:=hv.form;have HOK:=hid hok;have HG:=hid hG;clear hv hT hG hok;go_enter Tryz.func83,Tryz.ntmps83
 go_wp2_with fail
 refine RR.out.mono ?_;clear RR;rintro e w1 ⟨hB1,⟨hM,g,R,rfl,hg,hnew,hmx,hvals⟩ | ⟨hM,rfl⟩⟩
 ·change j8 w1 g R (jA M) at hmx
  obtain⟨hm1,hn1⟩:=K0 hM;have HM:=hid hM
  have hRl:R.length=M.length:=by rw[←yl R,hvals];simp
  have WD:Hid (Calls Tryz.prog 159 #[.slice (some ⟨g,0,none⟩) M.length M.length] w1 fun e w'=>e = .returned (.int .i64 (jA M:Nat))∧w1=w'):=hid (by
   have h:=Qp g M.length (jA M) R w1 hmx;rw[hRl] at h;by_cases hR:R=[]
   ·rw[if_pos hR] at h
    have:M=[]:=List.length_eq_zero_iff.1 (by rw[←hRl,hR];rfl)
    have h2:jA M=0:=by rw[this];rfl
    rw[h2];exact h
   ·rw[if_neg hR] at h;exact h)
  have HB1:=hid hB1;by_cases hsq:jA M=M.length
  ·have hsq':(((jA M:Nat):Int) != (M.length:Int))=false:=by simp;omega
   obtain⟨hok1,hok2,hok3⟩:=HOK.out hM hsq;have DT:=hid (SZ g M.length (jA M) R w1 hmx (by omega) (by omega) (by omega) (by rw[hvals];exact hok1) (by rw[hvals];exact hok2));rw[hRl] at DT;have Hvals:=hid hvals;have Hnew:=hid hnew;have HF:=hid hok3;have HSQ:=hid hsq;clear hmx hnew hvals hok1 hok2 hok3 hM hB1 hRl HOK hsq
   go_wp2_with (first | (go_at_call 159;refine WD.out.mono ?_;rintro e w' ⟨rfl,rfl⟩))
   refine DT.out.mono ?_;clear DT WD;rintro e w2 ⟨dv,rfl,hdv,hbs⟩;rw[Hvals.out] at hdv;have hB2:=Ag HB1.out hg Hnew.out hbs;have WR:=hid (XP dv (qx (jA M) (M.map ji)) w2 hdv HF.out.1 HF.out.2 (HG.out.below hB2));have HB2:=hid hB2;obtain⟨s,B1,m1,k1,B2,m2,k2,rfl⟩:=hdv.shape;generalize hde:qx (jA M) (M.map ji)=D at *;have HDE:=hid hde;clear hdv hbs hB2 hde HF
   go_wp2_with fail
   refine WR.out.mono ?_;clear WR;rintro e w3 ⟨rfl,hB3⟩;have HB3:=hid (HB2.out.trans (hB3.mono HB2.out.size));clear hB3
   have hend:∃(t:ByteArray) (k:Int),qS D = .returned (.tuple #[.string t,.int .i64 k]):=by
    unfold qS;split
    ·exact⟨_,_,rfl⟩
    ·exact⟨_,_,rfl⟩
   obtain⟨t,k,hend⟩:=hend;have HE:=hid hend;rw[hend];clear hend
   go_wp2
   go_ret2;exact⟨HB3.out,.inl ⟨HM.out,HSQ.out,by rw[HDE.out,HE.out];rfl⟩⟩
  ·have hsq':(((jA M:Nat):Int) != (M.length:Int))=true:=by simp;omega
   have HSQ:=hid hsq;clear hmx hnew hvals hM hB1 hRl HOK hsq
   go_wp2_with (first | (go_at_call 159;refine WD.out.mono ?_;rintro e w' ⟨rfl,rfl⟩))
   go_ret2;exact⟨HB1.out,.inr (.inl ⟨HM.out,HSQ.out,rfl⟩)⟩
 ·have HX:=hid hM
  have hne:(jT M != 0)=true:=by simpa using hM
  clear HOK hM;generalize hec:jT M=ec at *;have HEC:=hid hec;clear hec
  go_wp2
  go_ret2;exact⟨hB1,.inr (.inr ⟨by rw[HEC.out];exact HX.out,by rw[HEC.out];rfl⟩)⟩
def xc (L:List jn) (n:Nat):Int:=if L.length≠n then 2 else ku L
def Fz (L:List jn) (n:Nat) (w:World) (e:Ending) (w':World):Prop:=
 Below w.heap.size w w'∧((xc L n=0∧L.length=n ∧ ∃g es,e = .returned (.tuple #[.slice (some ⟨g,0,none⟩) n n,.int .i64 0])∧w.heap.size≤g∧jp w' g es (ji L))∨(xc L n≠0∧e = .returned (.tuple #[jm,.int .i64 (xc L n)])))
theorem W6 (v:Value) (L:List jn) (n:Nat) (w:World) (hv:jB w v (jO L)) (hn:n≤1000000) (hT:∀l∈L,xq l) (hG:jN w):
  Calls Tryz.prog 157 #[v,.int .i64 n] w (Fz L n w):=by
 have hv':=hv;obtain⟨A,c,rfl,_,hc2⟩:=hv'.form;simp only[qg] at hc2 hv ⊢;clear hv';by_cases hl:L.length=n
 ·have hl':((L.length:Int) != (n:Int))=false:=by simp;omega
  have HS:Hid (xc L n=ku L):=hid (by unfold xc;rw[if_neg (by simpa using hl)]);have CV:=hid (UJ _ L w hv (by omega) hT hG);have HL:=hid hl;clear hv hT hG hl;go_enter Tryz.func157,Tryz.ntmps157
  go_wp2_with fail
  refine CV.out.mono ?_;clear CV;rintro e w1 ⟨hB1,⟨hib,gn,esn,rfl,hg,hO1⟩ | ⟨hib,rfl⟩⟩
  ·have HO:=hid hO1
   have HI:=hid hib;clear hO1 hib
   go_wp2
   go_ret2;exact⟨hB1,.inl ⟨by rw[HS.out];exact HI.out,HL.out,gn,esn,by rw[←HL.out];rfl,hg,HO.out⟩⟩
  ·have HI:=hid hib
   clear hib;generalize hec:ku L=ec at *
   go_wp2
   go_ret2;exact⟨hB1,.inr ⟨by rw[HS.out];exact HI.out,by rw[HS.out];rfl⟩⟩
 ·have hl':((L.length:Int) != (n:Int))=true:=by simp;omega
  have HS:Hid (xc L n=2):=hid (by unfold xc;rw[if_pos hl]);clear hv hT hG hl;go_enter Tryz.func157,Tryz.ntmps157
  go_wp2
  go_ret2;exact⟨Below.refl _ _,.inr ⟨by rw[HS.out];decide,by rw[HS.out];rfl⟩⟩
def qr (M:List (List jn)) (b:List jn):Int:=if jT M=0 then xc b M.length else jT M
def T8 (M:List (List jn)) (b:List jn) (w:World) (e:Ending) (w':World):Prop:=
 Below w.heap.size w w'∧((qr M b=0∧jT M=0∧b.length=M.length ∧ ∃(g:Nat) (R:List jr) (gb:Nat) (eb:List El),e = .returned (.tuple #[.slice (some ⟨g,0,none⟩) M.length M.length,.slice (some ⟨gb,0,none⟩) M.length M.length,.int .i64 0]) ∧
   w.heap.size≤g∧(∀r∈R,w.heap.size≤r.1)∧j8 w' g R (jA M)∧ju R=M.map ji∧w.heap.size≤gb∧jp w' gb eb (ji b)) ∨
  (qr M b≠0 ∧ ∃v,e = .returned (.tuple #[v,jm,.int .i64 (qr M b)])))
theorem WV (v u:Value) (M:List (List jn)) (b:List jn) (w:World) (hv:kd w v M) (hu:jB w u (jO b)) (hT:∀r∈M,∀l∈r,xq l) (hTb:∀l∈b,xq l) (hG:jN w):
  Calls Tryz.prog 153 #[v,u] w (T8 M b w):=by
 have RR:=hid (Zu v M w hv hT hG);obtain⟨A,c,rfl,_,_⟩:=hv.form;have RS:=hid (fun (hl:M.length≤1000000) W (hw:Below w.heap.size w W)=>W6 u b M.length W (hu.below hw) hl hTb (hG.below hw));obtain⟨A2,c2,rfl,_,_⟩:=hu.form;simp only[qg] at RS ⊢;clear hv hu hT hTb hG;go_enter Tryz.func153,Tryz.ntmps153
 go_wp2_with fail
 refine RR.out.mono ?_;clear RR;rintro e w1 ⟨hB1,⟨hM,g,R,rfl,hg,hnew,hmx,hvals⟩ | ⟨hM,rfl⟩⟩
 ·change j8 w1 g R (jA M) at hmx
  have RS2:=hid (RS.out (by have:=(K0 hM).1;omega) w1 hB1);have HE:Hid (qr M b=xc b M.length):=hid (by unfold qr;rw[if_pos hM]);have HM:=hid hM;have HB1:=hid hB1;have Hmx:=hid hmx;have Hnew:=hid hnew;have Hvals:=hid hvals;clear RS hM hB1 hmx hnew hvals
  go_wp2_with fail
  refine RS2.out.mono ?_;clear RS2;rintro e w2 ⟨hB2,⟨hs,hl,gb,eb,rfl,hgb,hO⟩ | ⟨hs,rfl⟩⟩
  ·have HS:=hid hs
   have HL:=hid hl;have HO:=hid hO;have HB2:=hid (HB1.out.trans (hB2.mono HB1.out.size));have Hmx2:=hid (Hmx.out.below hB2);have hgbw:w.heap.size≤gb:=Nat.le_trans HB1.out.size hgb;clear hs hl hO hB2
   go_wp2
   go_ret3;exact⟨HB2.out,.inl ⟨by rw[HE.out];exact HS.out,HM.out,HL.out,g,R,gb,eb,rfl,hg,Hnew.out,Hmx2.out,Hvals.out,hgbw,HO.out⟩⟩
  ·have HS:=hid hs
   have HB2:=hid (HB1.out.trans (hB2.mono HB1.out.size));clear hs hB2;generalize hec:xc b M.length=ec at *
   go_wp2
   go_ret3;exact⟨HB2.out,.inr ⟨by rw[HE.out];exact HS.out,_,by rw[HE.out];rfl⟩⟩
 ·have HX:=hid hM
  have HE:Hid (qr M b=jT M):=hid (by unfold qr;rw[if_neg hM])
  have hne:(jT M != 0)=true:=by simpa using hM
  clear hM RS;generalize hec:jT M=ec at *
  go_wp2
  go_ret3;exact⟨hB1,.inr ⟨by rw[HE.out];exact HX.out,_,by rw[HE.out];rfl⟩⟩
attribute [local go_sem ↓] Go.wp_at_zero Go.wp_at_succ
def xM (L P:List Rat):Nat→Rat
 | 0=>0
 | k+1=>xM L P k+L[k]?.getD 0*P[k]?.getD 0
def XY (L P:List Rat):Prop:=∀k,k<L.length→kv (L[k]?.getD 0)∧kv (P[k]?.getD 0)∧xO (xM L P k) (L[k]?.getD 0*P[k]?.getD 0)
theorem BB (w:World) (b1 b2 n c1 c2:Nat) (es1 es2:List El) (L P:List Rat) (h1:jp w b1 es1 L) (h2:jp w b2 es2 P) (hn:n=L.length) (hn2:L.length=P.length) (hn1:n≤1000000) (hok:XY L P):
  Calls Tryz.prog 158 #[.slice (some ⟨b1,0,none⟩) n c1,.slice (some ⟨b2,0,none⟩) n c2] w (qE (xM L P n) w):=by
 have H1:=hid h1;have H2:=hid h2;have HN:=hid hn;have HN2:=hid hn2;have HOK:=hid hok;have HO0:=hid (ja.make w 122 [.bool false,.slice none 0 0,.slice none 0 0]);have RO:=hid (fun W=>(by simpa using Ke 0 W (by omega) (by omega):Calls Tryz.prog 125 #[.int .i64 0] W (qE 0 W)));clear h1 h2 hn hn2 hok;go_enter Tryz.func158,Tryz.ntmps158
 go_wp2_with fail
 refine(RO.out _).mono ?_;rintro e w1 ⟨zv,rfl,hzv,hB1⟩;obtain⟨zs,Z1,zn1,zc1,Z2,zn2,zc2,rfl⟩:=hzv.shape;have hal0:Below w.heap.size w (w.alloc (.cells #[.bool false,.slice none 0 0,.slice none 0 0] 122)):=(Below.refl _ _).alloc (Nat.le_refl _) _;have hB01:Below w.heap.size w w1:=hal0.trans (hB1.mono hal0.size);have HO1:=hid (HO0.out.below hB1 HO0.out.lt);have hal:Below w1.heap.size w1 (w1.alloc (.cells #[.bool zs,.slice Z1 zn1 zc1,.slice Z2 zn2 zc2] 122)):=(Below.refl _ _).alloc (Nat.le_refl _) _
 have HV:Hid (∃s B1 m1 k1 B2 m2 k2,jp (w1.alloc (.cells #[.bool zs,.slice Z1 zn1 zc1,.slice Z2 zn2 zc2] 122)) w1.heap.size [(s,.slice B1 m1 k1,.slice B2 m2 k2)] [xM L P 0]):=hid ⟨zs,Z1,zn1,zc1,Z2,zn2,zc2,ja.make w1 _ [.bool zs,.slice Z1 zn1 zc1,.slice Z2 zn2 zc2],Nat.le_refl _,fun e' he'=>by simp at he';subst he';exact⟨jq _ _ _,jq _ _ _⟩,fun i e' q h1 h2=>by
   cases i with
   | zero=>simp at h1 h2;subst h1 h2;exact hzv.below hal
   | succ i=>simp at h1⟩
 have HB2:=hid (hB01.trans (hal.mono hB01.size));have HO2:=hid (HO1.out.below hal HO1.out.lt);have hvb:w.heap.size<w1.heap.size:=HO1.out.lt;have hRl1:=H1.out.own.lt;have hRl2:=H2.out.own.lt;clear hzv hB1 hal0 hB01 hal HO0 HO1 RO
 go_wp2_with fail
 obtain⟨W2,hW2⟩:∃W2,W2=w1.alloc (.cells #[.bool zs,.slice Z1 zn1 zc1,.slice Z2 zn2 zc2] 122):=⟨_,rfl⟩
 rw[←hW2] at HV HB2 HO2;rw[←hW2];clear hW2;generalize w1.heap.size=vb at *
 go_loopg [11] n (fun gh ix wx=>∃i:Nat,ix = .int .i64 i∧i+gh=n∧Hid (Below w.heap.size w wx)∧Hid (ja wx w.heap.size 122 [.bool false,.slice none 0 0,.slice none 0 0])∧Hid (∃s B1 m1 k1 B2 m2 k2,jp wx vb [(s,.slice B1 m1 k1,.slice B2 m2 k2)] [xM L P i]))
 case atStart=>exact⟨0,rfl,by omega,HB2,HO2,HV⟩
 case round=>
  clear HB2 HO2 HV;obtain⟨i,rfl,hi,hWx,hOx,hVx⟩:=hrel;obtain⟨vs,V1,vn1,vc1,V2,vn2,vc2,hV⟩:=hVx.out;obtain⟨v0,v1,v2,u0,u1,u2⟩:=hV.own.three;have hvl:=hV.own.lt;have HV:=hid hV;clear hV hVx
  cases gk with
  | zero=>
   have hin3:¬((i:Int)<(n:Int)):=by omega
   obtain⟨e0,e1,e2,f0,f1,f2⟩:=hOx.out.three;have hrt:=HV.out.num 0 _ _ rfl rfl;rw[show i=n by omega] at hrt;have HF:=hid (Zs (s:=[]) hrt hOx.out (jL.of_below (hWx.out.mono (Nat.le_refl _))) (Nat.le_refl _));have HBf:=hid (((hWx.out.setCell (p:=⟨w.heap.size,0,none⟩) (Nat.le_refl _) (.bool vs)).setCell (p:=⟨w.heap.size,1,none⟩) (Nat.le_refl _) (.slice V1 vn1 vc1)).setCell (p:=⟨w.heap.size,2,none⟩) (Nat.le_refl _) (.slice V2 vn2 vc2));have hol:=hOx.out.lt;clear hrt
   go_wp2
   exact bodyPost_ret (v:= .agg #[.bool vs,.slice V1 vn1 vc1,.slice V2 vn2 vc2]) (by simp[results,Tryz.results158,go_sem,e0,e1,e2]) rfl ⟨_,rfl,HF.out.1,HBf.out⟩
  | succ gh2=>
   have hil:i<n:=by omega
   have hil':(i:Int)<(n:Int):=by omega
   have hiL:i<L.length:=by rw[←HN.out];exact hil
   have hR1:=H1.out.below hWx.out;have hR2:=H2.out.below hWx.out;obtain⟨ea,A1,an1,ac1,A2,an2,ac2,zz0,hea,hrta,p0,p1,p2,zz1,zz2,zz3⟩:=hR1.at_ (j:=i) hiL;clear zz0 zz1 zz2 zz3;obtain⟨eb,Q1,qn1,qc1,Q2,qn2,qc2,zz0,heb,hrtb,q0,q1,q2,zz1,zz2,zz3⟩:=hR2.at_ (j:=i) (by rw[←HN2.out];exact hiL);clear zz0 zz1 zz2 zz3;obtain⟨as_,a1,a2⟩:=ea
   have hea':a1 = .slice A1 an1 ac1∧a2 = .slice A2 an2 ac2:=by simpa using hea
   obtain⟨rfl,rfl⟩:=hea';obtain⟨bs_,b3,b4⟩:=eb
   have heb':b3 = .slice Q1 qn1 qc1∧b4 = .slice Q2 qn2 qc2:=by simpa using heb
   obtain⟨rfl,rfl⟩:=heb';clear hea heb;unfold k8 at hrta hrtb;dsimp only at p0 q0 hrta hrtb;have hb1l:=hR1.own.lt;have hb2l:=hR2.own.lt;obtain⟨fo1,fo2,fo3⟩:=HOK.out i hiL;have hal3:Below wr.heap.size wr (wr.alloc (.cells #[.bool as_,.slice A1 an1 ac1,.slice A2 an2 ac2] 122)):=(Below.refl _ _).alloc (Nat.le_refl _) _;have hPX:=ja.make wr 122 [.bool as_,.slice A1 an1 ac1,.slice A2 an2 ac2];have Hi:=hid hi
   go_upto_region 5 with fail
   obtain⟨W3,hW3⟩:∃W3,W3=wr.alloc (.cells #[.bool as_,.slice A1 an1 ac1,.slice A2 an2 ac2] 122):=⟨_,rfl⟩
   rw[←hW3] at hal3 hPX;rw[←hW3];clear hW3;have hV3:=HV.out.below hal3;obtain⟨x0,x1,x2,y0,y1,y2⟩:=hV3.own.three;obtain⟨t0,t1,t2,zz1,zz2,zz3⟩:=hPX.three;clear zz1 zz2 zz3;have s0:=(hal3.cell (p:=⟨b2,i*3,none⟩) hb2l).trans q0;have s1:=(hal3.cell (p:=⟨b2,i*3+1,none⟩) hb2l).trans q1;have s2:=(hal3.cell (p:=⟨b2,i*3+2,none⟩) hb2l).trans q2;have hvl3:=hV3.own.lt;have hpx3:=hPX.lt;have hb2l3:b2<W3.heap.size:=Nat.lt_of_lt_of_le hb2l hal3.size;have TM:=hid (fun (W:World) (h:Rt W (.agg #[.bool as_,.slice A1 an1 ac1,.slice A2 an2 ac2]) (L[i]?.getD 0)) (h':Rt W (.agg #[.bool bs_,.slice Q1 qn1 qc1,.slice Q2 qn2 qc2]) (P[i]?.getD 0))=>WU _ _ _ _ W h h' fo1.1 fo1.2 fo2.1 fo2.2);have PL:=hid (fun (W:World) (u:Value) (h:Rt W (.agg #[.bool vs,.slice V1 vn1 vc1,.slice V2 vn2 vc2]) (xM L P i)) (h':Rt W u (L[i]?.getD 0*P[i]?.getD 0))=>WS _ u _ _ W h h' fo3);have XA:=hid (hrta.below hal3);have XB:=hid (hrtb.below hal3);have XV:=hid (hV3.num 0 _ _ rfl rfl);have HV3:=hid hV3;have HW3:=hid (hWx.out.trans (hal3.mono hWx.out.size));have HO3:=hid (hOx.out.below hal3 hOx.out.lt);generalize wr.heap.size=px at *;clear v0 v1 v2 u0 u1 u2 p0 p1 p2 q0 q1 q2 hrta hrtb hR1 hR2 hal3 hPX hV3 fo1 fo2 fo3 hi HV hOx hWx hvl hb1l hb2l
   go_region_with (first
    | (go_at_call 110;refine(TM.out _ (XA.out.below (Below.refl _ _).drew) (XB.out.below (Below.refl _ _).drew)).mono ?_;rintro ee w3 ⟨tv,rfl,htv,hB3⟩;obtain⟨s5,A5,n5,c5,A6,n6,c6,rfl⟩:=htv.shape;have g0:=(hB3.cell (p:=⟨vb,0,none⟩) hvl3).trans x0;have g1:=(hB3.cell (p:=⟨vb,1,none⟩) hvl3).trans x1;have g2:=(hB3.cell (p:=⟨vb,2,none⟩) hvl3).trans x2;have i0:=(hB3.frozen (p:=⟨vb,0,none⟩) hvl3).trans y0;have i1:=(hB3.frozen (p:=⟨vb,1,none⟩) hvl3).trans y1;have i2:=(hB3.frozen (p:=⟨vb,2,none⟩) hvl3).trans y2;have hvl4:vb<w3.heap.size:=Nat.lt_of_lt_of_le hvl3 hB3.size;have HT3:=hid htv;have HB3:=hid hB3;clear htv hB3)
    | (go_at_call 108;refine(PL.out _ _ (XV.out.below (xt HB3.out)) HT3.out).mono ?_;rintro ee w4 ⟨mv,rfl,hmv,hB4⟩;obtain⟨s7,A7,n7,c7,A8,n8,c8,rfl⟩:=hmv.shape;have k0:=(hB4.cell (p:=⟨vb,0,none⟩) hvl4).trans g0;have k1:=(hB4.cell (p:=⟨vb,1,none⟩) hvl4).trans g1;have k2:=(hB4.cell (p:=⟨vb,2,none⟩) hvl4).trans g2;have l0:=(hB4.frozen (p:=⟨vb,0,none⟩) hvl4).trans i0;have l1:=(hB4.frozen (p:=⟨vb,1,none⟩) hvl4).trans i1;have l2:=(hB4.frozen (p:=⟨vb,2,none⟩) hvl4).trans i2;have HM4:=hid hmv;have HB4:=hid hB4;clear hmv hB4))
   all_goals (
    have HB14:Hid (Below W3.heap.size W3 w4):=hid ((xt HB3.out).trans (HB4.out.mono HB3.out.size))
    have HVt:Hid (∃s B1 m1 k1 B2 m2 k2,jp (((w4.setCell ⟨vb,0,none⟩ (.bool s7)).setCell ⟨vb,1,none⟩ (.slice A7 n7 c7)).setCell ⟨vb,2,none⟩ (.slice A8 n8 c8)) vb [(s,.slice B1 m1 k1,.slice B2 m2 k2)] [xM L P (i+1)]):=hid (by
     have:=(HV3.out.below HB14.out).put (j:=0) (e:=(s7,.slice A7 n7 c7,.slice A8 n8 c8)) (q:=xM L P (i+1)) (by simp) HM4.out
     exact⟨_,_,_,_,_,_,_,this⟩)
    have HWt:=hid ((((HW3.out.trans (HB14.out.mono HW3.out.size)).setCell (p:=⟨vb,0,none⟩) (Nat.le_of_lt hvb) (.bool s7)).setCell (p:=⟨vb,1,none⟩) (Nat.le_of_lt hvb) (.slice A7 n7 c7)).setCell (p:=⟨vb,2,none⟩) (Nat.le_of_lt hvb) (.slice A8 n8 c8))
    have hne:w.heap.size≠vb:=by omega
    have HOt:=hid ((HO3.out.below HB14.out HO3.out.lt).but (jh.set3 w4 vb 0 (.bool s7) (.slice A7 n7 c7) (.slice A8 n8 c8)) hne);clear x0 x1 x2 y0 y1 y2 t0 t1 t2 s0 s1 s2 g0 g1 g2 i0 i1 i2 k0 k1 k2 l0 l1 l2 HM4 HT3 HB3 HB4 TM PL XA XB XV HB14 HW3 HO3 HV3 hne
    go_wp2
    go_roundg gh2
    case rel=>exact⟨i+1,by go_num,by have:=Hi.out;omega,HWt,HOt,HVt⟩
    case measure=>omega)
end Go.Proofs.YtneafcdfnhnpnaaGreatDoor
namespace Go.Proofs.YtneafcdfnhnpnaaGreatDoor
open Go.RowKit Go.Lib
theorem Vc {T:Type} {F:Fd T} {n:Nat} :∀(k fr:Nat) (S:jz T),S.piv.length=S.cols.length→(jH F n k fr S).piv.length=(jH F n k fr S).cols.length
 | 0,_,_,h=>h
 | k+1,fr,S,h=>by
  unfold jH;split
  ·exact h
  ·exact Vc k _ _ (by unfold jU;simp[h])
theorem U9 {T:Type} {F:Fd T} (n:Nat):∀(k fr:Nat) (S:jz T),(jH F n k fr S).cols.length≤S.cols.length+k
 | 0,_,_=>Nat.le_refl _
 | k+1,fr,S=>by
  unfold jH;split
  ·omega
  ·rename_i row col _
   have:=U9 (F:=F) n k (col+1) (jU F row col S)
   have e:(jU F row col S).cols.length=S.cols.length+1:=by simp[jU]
   omega
def Ql (n:Nat) (M:List (List Rat)) (b:List Rat):jz Rat:=ko jd (n+1) (xW M b)
def JG (n:Nat) (M:List (List Rat)) (b:List Rat):List Rat:=yj (Ql n M b) n (Ql n M b).cols.length
def Ue (n:Nat) (M:List (List Rat)) (b:List Rat):Prop:=yS (n+1) (xW M b) ∧ ∀q∈JG n M b,kv q
def C7 (L:List Rat) (w:World) (e:Ending) (w':World):Prop:=
 ((∀q∈L,¬kR q) ∧ ∃g,e = .returned (.tuple #[.slice (some ⟨g,0,none⟩) L.length L.length,.int .i64 0])∧w.heap.size≤g∧ja w' g 22 (jO (L.map jg)))∨((∃q∈L,kR q)∧e = .returned (.tuple #[jm,.int .i64 4]))
def FO (M:List (List jn)) (b:List jn) (w:World) (e:Ending) (w':World):Prop:=
 Below w.heap.size w w'∧((qr M b=0∧jT M=0∧b.length=M.length∧((jA M∈(Ql (jA M) (M.map ji) (ji b)).cols∧e = .returned (.tuple #[jm,.int .i64 21]))∨(jA M ∉ (Ql (jA M) (M.map ji) (ji b)).cols∧C7 (JG (jA M) (M.map ji) (ji b)) w e w'))) ∨
  (qr M b≠0∧e = .returned (.tuple #[jm,.int .i64 (qr M b)])))
theorem Ei (v u:Value) (M:List (List jn)) (b:List jn) (w:World) (hv:kd w v M) (hu:jB w u (jO b)) (hT:∀r∈M,∀l∈r,xq l) (hTb:∀l∈b,xq l) (hG:jN w) (hok:qr M b=0→Ue (jA M) (M.map ji) (ji b)):
  Calls Tryz.prog 76 #[v,u] w (FO M b w):=by
 have RE:=hid (WV v u M b w hv hu hT hTb hG);have HG:=hid hG;have HOK:=hid hok;obtain⟨A,c,rfl,_,_⟩:=hv.form;obtain⟨A2,c2,rfl,_,_⟩:=hu.form;simp only[qg] at RE ⊢;clear hv hu hT hTb hG hok;go_enter Tryz.func76,Tryz.ntmps76
 go_wp2_with fail
 refine RE.out.mono ?_;clear RE;rintro e w1 ⟨hB1,⟨hE,hM,hbl,g,R,gb,eb,rfl,hg,hnew,hmx,hvals,hgb,hO⟩ | ⟨hE,v1,rfl⟩⟩
 ·obtain⟨hm1,hn1⟩:=K0 hM
  have hRl:R.length=M.length:=by rw[←yl R,hvals];simp
  obtain⟨hok1,hok2⟩:=HOK.out hE
  have SV:=hid (FQ g M.length (jA M) gb M.length R eb (ji b) w1 hmx (by omega) (by omega) (by omega) (fun h=>by
   have:M=[]:=List.length_eq_zero_iff.1 (by rw[←hRl,h];rfl)
   subst this;rfl) hO (by simp[ji];omega) (by simp[ji];omega) (by omega) (by rw[hvals];exact hok1))
  rw[hRl,hvals] at SV;have HE:=hid hE;have HM:=hid hM;have HBl:=hid hbl;have HF:=hid hok2;have HB1:=hid hB1;clear hmx hnew hvals hO hE hM hbl hok1 hok2 hB1 hRl HOK hg hgb
  go_wp2_with fail
  refine SV.out.mono ?_;clear SV;rintro e w2 ⟨hB2,⟨hin,rfl⟩ | ⟨hnin,gs,es,rfl,hgs,hS⟩⟩
  ·have HI:=hid hin
   have HB2:=hid (HB1.out.trans (hB2.mono HB1.out.size));clear hin hB2 HF
   go_wp2
   go_ret2;exact⟨HB2.out,.inl ⟨HE.out,HM.out,HBl.out,.inl ⟨HI.out,rfl⟩⟩⟩
  ·have HI:=hid hnin
   have HB2:=hid (HB1.out.trans (hB2.mono HB1.out.size));have hsl:(JG (jA M) (M.map ji) (ji b)).length=jA M:=ZF _ _ _;have WR:=hid (Mw gs (jA M) (jA M) es (JG (jA M) (M.map ji) (ji b)) w2 hS hsl.symm (by omega) (Nat.le_refl _) HF.out (HG.out.below HB2.out));clear hnin hB2 hS HF;generalize hde:JG (jA M) (M.map ji) (ji b)=D at *;have HDE:=hid hde;clear hde hsl
   go_wp2_with fail
   refine WR.out.mono ?_;clear WR;rintro e w3 ⟨hB3,⟨hok,gn,rfl,hgn,hO3⟩ | ⟨hno,rfl⟩⟩
   ·have HK:=hid hok
    have HO3:=hid hO3;have HB3:=hid (HB2.out.trans (hB3.mono HB2.out.size));have hgw:w.heap.size≤gn:=Nat.le_trans HB2.out.size hgn;clear hok hO3 hB3
    go_wp2
    go_ret2;exact⟨HB3.out,.inl ⟨HE.out,HM.out,HBl.out,.inr ⟨HI.out,by rw[HDE.out];exact .inl ⟨HK.out,gn,rfl,hgw,HO3.out⟩⟩⟩⟩
   ·have HK:=hid hno
    have HB3:=hid (HB2.out.trans (hB3.mono HB2.out.size));clear hno hB3
    go_wp2
    go_ret2;exact⟨HB3.out,.inl ⟨HE.out,HM.out,HBl.out,.inr ⟨HI.out,by rw[HDE.out];exact .inr ⟨HK.out,rfl⟩⟩⟩⟩
 ·have HX:=hid hE
  have hne:(qr M b != 0)=true:=by simpa using hE
  clear HOK hE;generalize hec:qr M b=ec at *;have HEC:=hid hec;clear hec
  go_wp2
  go_ret2;exact⟨hB1,.inr ⟨by rw[HEC.out];exact HX.out,by rw[HEC.out];rfl⟩⟩
def JP (L:Nat):Prop:=∀x,x<L→jl x
theorem Ns {k:Nat} (hk:k≤8000000000000):JP (10^k):=fun _ h=>jl.of_pow h (.inr SD) hk
section
variable {L X:Nat}
theorem Bq.fit (hL:JP L) {q:Rat} (h:Bq X q) (hX:X<L):kv q:=⟨hL _ (Nat.lt_of_le_of_lt h.1 hX),hL _ (Nat.lt_of_le_of_lt h.2 hX)⟩
theorem BW (l:List UInt8) (h:(jY l).1≠0):(jY l).2=0:=by
 revert h;unfold jY Kf
 repeat' split
 all_goals first
  | (intro _;rfl)
  | (intro h;exact absurd rfl h)
theorem Bu (X:Nat):X^5=X*(X*(X*(X*X))):=by
 simp only[Nat.pow_succ,Nat.pow_zero,Nat.one_mul];simp only[Nat.mul_assoc]
theorem Jd (hX:2≤X) {e:Nat} (he:1≤e):X≤X^e:=by have:=yg hX he;rwa [Nat.pow_one] at this
theorem Zf (k:Nat):1≤5^k:=Nat.one_le_pow _ _ (by decide)
theorem FV (hL:JP L) (hX:2≤X) {S:jz Rat} {row col:Nat} (h:∀r∈S.rows,∀x∈r.2.2,Bq X x) (hd:elPiv jd row col S≠0) (hl:X^5<L):zq row col S:=by
 have hsw:∀r∈jX row S,∀x∈r.2.2,Bq X x:=by
  intro r hr;unfold jX at hr;split at hr
  ·exact h r hr
  ·exact h r (Kl hr)
 have hrow:∀i,∀x∈jG (jX row S) i,Bq X x:=by
  intro i x hx;unfold jG at hx
  cases e:(jX row S)[i]? with
  | none=>rw[e] at hx;cases hx
  | some r=>rw[e] at hx;exact hsw r (List.mem_of_getElem? e) x hx
 have hdq:Bq X (elPiv jd row col S):=Bq.at hX (hrow _) col;have hdr:=UX hX hdq hd (o:=col) (hrow S.cols.length)
 have hP:∀x∈jG (elDiv jd row col S) S.cols.length,Bq (X*X) x:=by
  intro x hx;unfold jG elDiv at hx
  cases e:(jX row S)[S.cols.length]? with
  | none=>simp[setRow,e] at hx
  | some r=>rw[qA e] at hx;exact hdr x hx
 have h1:X<L:=Nat.lt_of_le_of_lt (Jd hX (by decide)) hl;have h2:X*X<L:=Nat.lt_of_le_of_lt (by have:=yg hX (show 2≤5 by decide);rwa [Nat.pow_two] at this) hl
 have h3:X*(X*X)<L:=Nat.lt_of_le_of_lt (by
  have:=yg hX (show 3≤5 by decide)
  rwa [Nat.pow_succ,Nat.pow_two,Nat.mul_comm] at this) hl
 have hX2:2≤X*X:=Nat.le_trans hX (Nat.le_mul_of_pos_left X (by omega));refine⟨fun x hx=>(hrow _ x hx).fit hL h1,fun i r hr hi=> ?_⟩
 have hr0:∀y∈r.2.2,Bq X y:=by
  unfold elDiv at hr;rw[xA (fun e=>hi e.symm)] at hr;exact hsw r (List.mem_of_getElem? hr)
 have ho:=Bq.at hX hr0 col;refine⟨ho.fit hL h1,fun j _ _=> ?_⟩;have hp:=Bq.at hX2 hP j;have hm:=ho.mul hp;have ha:=Bq.at hX hr0 j;refine⟨hp.fit hL h2,ha.fit hL h1,hm.fit hL h3,hL _ (Nat.lt_of_le_of_lt ?_ hl)⟩;have e1:=Nat.mul_le_mul ha.1 hm.2;have e2:=Nat.mul_le_mul hm.1 ha.2;rw[Bu];have e3:X*(X*X)*X=X*(X*(X*X)):=Nat.mul_comm _ _;have e4:2*(X*(X*(X*X)))≤X*(X*(X*(X*X))):=Nat.mul_le_mul_right _ hX;omega
theorem Ve {S:jz Rat} {i c:Nat} (h1:S.cols.length≤i) (h2:i<S.rows.length):elPiv jd i c S=jI jd S.rows i c:=by
 unfold elPiv;rw[YF h2]
 obtain⟨a,ha⟩:∃a,S.rows[i]? =some a:=⟨S.rows[i],List.getElem?_eq_getElem h2⟩
 obtain⟨b,hb⟩:∃b,S.rows[S.cols.length]? =some b:=⟨S.rows[S.cols.length]'(by omega),List.getElem?_eq_getElem _⟩
 unfold jI;rw[kW (Qm ha hb),kW ha]
theorem T0 (hX:2≤X) {S:jz Rat} {i c:Nat} (h1:S.cols.length≤i) (h2:i<S.rows.length) (h:∀r∈S.rows,∀x∈r.2.2,Bq X x):Bq X (elPiv jd i c S):=by
 rw[Ve h1 h2];unfold jI;refine Bq.at hX (fun x hx=> ?_) c;rw[kW (List.getElem?_eq_getElem h2)] at hx;exact h _ (List.getElem_mem h2) x hx
theorem Vd (hL:JP L) {n:Nat} :∀(k fr:Nat) (S:jz Rat) (X:Nat),2≤X→(∀r∈S.rows,∀x∈r.2.2,Bq X x)→(∀p∈S.piv,Bq X p)→X^5^k<L →
  qG n k fr S∧(∀r∈(jH jd n k fr S).rows,∀x∈r.2.2,Bq (X^5^k) x)∧(∀p∈(jH jd n k fr S).piv,Bq (X^5^k) p)
 | 0,fr,S,X,hX,h,hp,hl=>⟨trivial,by rw[Nat.pow_zero,Nat.pow_one];exact h,by rw[Nat.pow_zero,Nat.pow_one];exact hp⟩
 | k+1,fr,S,X,hX,h,hq,hl=>by
  have hup:X≤X^5^(k+1):=Jd hX (Zf _);unfold qG jH
  cases hp:kP jd S.rows S.cols.length (n-fr) fr with
  | none=>exact⟨trivial,fun r hr x hx=>(h r hr x hx).mono hup,fun p hp=>(hq p hp).mono hup⟩
  | some rc=>
   obtain⟨row,col⟩:=rc;obtain⟨b1,b2,b3,b4,b5⟩:=Zi _ _ hp
   have hd:elPiv jd row col S≠0:=by
    rw[Ve b3 b4];intro e;have hz:jd.isZ (jI jd S.rows row col)=decide (jI jd S.rows row col=0):=rfl;rw[hz,e] at b5;exact absurd b5 (by decide)
   have e5:X^5^(k+1)=(X^5)^5^k:=by rw[←Nat.pow_mul,Nat.pow_succ,Nat.mul_comm]
   have hX5:2≤X^5:=Nat.le_trans hX (Jd hX (by decide));rw[e5] at hl;have h5l:X^5<L:=Nat.lt_of_le_of_lt (Jd hX5 (Zf _)) hl;have hst:=FV hL hX h hd h5l;have hpb:=(T0 hX b3 b4 h (c:=col)).mono (Jd hX (show 1≤5 by decide))
   obtain⟨i1,i2,i3⟩:=Vd hL k (col+1) (jU jd row col S) (X^5) hX5 (GV hX h hd) (fun p hp=>by
    rcases List.mem_append.1 hp with hp | hp
    ·exact(hq p hp).mono (Jd hX (by decide))
    ·rw[List.mem_singleton.1 hp];exact hpb) hl
   rw[e5];exact⟨⟨hst,i1⟩,i2,i3⟩
theorem AK (hL:JP L) {n:Nat} {M:List (List Rat)} (hX:2≤X) (h:∀r∈M,∀x∈r,Bq X x) (hl:X^5^M.length<L):
  yS n M∧xn (ko jd n M)∧(∀r∈(ko jd n M).rows,∀x∈r.2.2,Bq (X^5^M.length) x)∧(∀p∈(ko jd n M).piv,Bq (X^5^M.length) p):=by
 obtain⟨a,b,c⟩:=Vd hL (n:=n) M.length 0 ⟨zO M,[],[],false⟩ X hX (fun r hr x hx=>by
  obtain⟨R,hR,rfl⟩:=List.mem_map.1 hr
  exact h R hR x hx) (by simp) hl
 exact⟨a,fun r hr x hx=>(b r hr x hx).fit hL hl,b,c⟩
end
theorem Cb {l:List UInt8} {n:Nat} (hl:l.length≤n) (hn:1≤n):Bq (10^n) (jY l).2:=by
 have h2:2≤10^n:=Nat.le_trans (by decide) (Nat.pow_le_pow_right (show 0<10 by decide) hn);by_cases h:(jY l).1=0
 ·obtain⟨t,_,_⟩:=WZ l h
  have hd:∀m,(decDigits m).length≤n→m≤10^n:=fun m hm=>by
   have h2:=qP (qZ m);rw[zT] at h2;exact Nat.le_of_lt (Nat.lt_of_lt_of_le h2 (Nat.pow_le_pow_right (by decide) hm))
  have ht:=congrArg List.length t;unfold jg at ht;rw[List.length_append,List.length_append] at ht;refine⟨hd _ (by omega),?_⟩;by_cases hd1:(jY l).2.den=1
  ·rw[hd1];omega
  ·rw[if_neg hd1,List.length_cons] at ht
   exact hd _ (by omega)
 ·rw[BW l h]
  exact Bq.zero h2
attribute [local go_sem ↓] Go.wp_at_zero Go.wp_at_succ
theorem qp.at_ {w:World} {base n c:Nat} {A:Option Addr} {B:List jr} (h:qp w base (.slice A n c) B) {j:Nat} {r:jr} (hr:B[j]? =some r):
  ∃g,A=some ⟨g,0,none⟩∧base≤g∧g<w.heap.size∧w.cell? ⟨g,j,none⟩=some (.slice (some ⟨r.1,0,none⟩) r.2.2.length r.2.1):=by
 obtain⟨hj,hrj⟩:=List.getElem?_eq_some_iff.1 hr
 rcases h.1.2 with ⟨hA,hn⟩ | ⟨g,cap,cur,hA,hb,hg,_,_,_,htake⟩
 ·omega
 ·injection hA with hA1 hA2 hA3
  subst hA1;refine⟨g,rfl,hb,(Array.getElem?_eq_some_iff.1 hg).1,?_⟩;rw[cell_of_row w g j cur _ (0,0) hg]
  have hu:(B.map fun r=>Value.slice (some ⟨r.1,0,none⟩) r.2.2.length r.2.1)[j]? =some (.slice (some ⟨r.1,0,none⟩) r.2.2.length r.2.1):=by rw[List.getElem?_map,hr];rfl
  rw[←htake,List.getElem?_take] at hu;split at hu
  ·simpa using hu
  ·cases hu
theorem qp.form {w:World} {base:Nat} {v:Value} {B:List jr} (h:qp w base v B):∃A c,v = .slice A B.length c∧B.length≤c∧c≤maxLen:=j7 h.1
def yI (n:Nat) (V:List (List Rat)) (b:List Rat):List (List Rat):=(List.range n).map (qj V)++[b]
def Qg (n:Nat):List Rat:=List.replicate n 0++[1]
def Kg (n:Nat) (V:List (List Rat)) (b y:List Rat) (j:Nat):Rat:=xM ((yI n V b)[j]?.getD []) y V.length-(Qg n)[j]?.getD 0
def Kw (n:Nat) (V:List (List Rat)) (b y:List Rat):Prop:=∀j,j<n+1→Kg n V b y j=0
def Uc (n:Nat) (V:List (List Rat)) (b y:List Rat):Prop:=∀j,j<n+1→XY ((yI n V b)[j]?.getD []) y∧xO (xM ((yI n V b)[j]?.getD []) y V.length) ((Qg n)[j]?.getD 0)
def CJ (M:List (List jn)) (b y:List jn) (w:World) (e:Ending) (w':World):Prop:=
 Below w.heap.size w w'∧((qr M b=0∧xc y M.length=0∧((Kw (jA M) (M.map ji) (ji b) (ji y)∧e = .returned (.int .i64 0))∨(¬Kw (jA M) (M.map ji) (ji b) (ji y)∧e = .returned (.int .i64 19)))) ∨
  (qr M b=0∧xc y M.length≠0∧e = .returned (.int .i64 (xc y M.length)))∨(qr M b≠0∧e = .returned (.int .i64 (qr M b))))
theorem CF {n:Nat} {V:List (List Rat)} {b:List Rat} (hb:b.length=V.length):∀L∈yI n V b,L.length=V.length:=by
 intro L hL;rcases List.mem_append.1 hL with h | h
 ·obtain⟨j,_,rfl⟩:=List.mem_map.1 h
  simp[qj]
 ·rw[List.mem_singleton.1 h];exact hb
theorem MQ (v u t:Value) (M:List (List jn)) (b y:List jn) (w:World) (hv:kd w v M) (hu:jB w u (jO b)) (ht:jB w t (jO y)) (hT:∀r∈M,∀l∈r,xq l) (hTb:∀l∈b,xq l) (hTy:∀l∈y,xq l) (hG:jN w)
  (hok:qr M b=0→xc y M.length=0→Uc (jA M) (M.map ji) (ji b) (ji y)):
  Calls Tryz.prog 78 #[v,u,t] w (CJ M b y w):=by
 have RE:=hid (WV v u M b w hv hu hT hTb hG);have RS:=hid (fun (hl:M.length≤1000000) W (hw:Below w.heap.size w W)=>W6 t y M.length W (ht.below hw) hl hTy (hG.below hw));have HOK:=hid hok;obtain⟨A,c,rfl,_,_⟩:=hv.form;obtain⟨A2,c2,rfl,_,_⟩:=hu.form;obtain⟨A3,c3,rfl,_,_⟩:=ht.form;simp only[qg] at RE RS ⊢;clear hv hu ht hT hTb hTy hG hok;go_enter Tryz.func78,Tryz.ntmps78
 go_wp2_with fail
 refine RE.out.mono ?_;clear RE;rintro e w1 ⟨hB1,⟨hE,hM,hbl,g,R,gb,eb,rfl,hg,hnew,hmx,hvals,hgb,hO⟩ | ⟨hE,v1,rfl⟩⟩
 ·obtain⟨hm1,hn1⟩:=K0 hM
  have hRl:R.length=M.length:=by rw[←yl R,hvals];simp
  have HB1:=hid hB1;have HE:=hid hE;have HM:=hid hM;have HMX:=hid hmx;have HO:=hid hO;have Hvals:=hid hvals
  have hrb:(ji b).length=M.length:=by simp[ji];exact hbl
  clear hB1 hE hM hmx hO hvals hnew
  go_wp2_with fail
  refine(RS.out (by omega) _ HB1.out).mono ?_;clear RS;rintro e w2 ⟨hB2,⟨hS,hyl,gy,ey,rfl,hgy,hOy⟩ | ⟨hS,rfl⟩⟩
  ·have HROK:=hid (HOK.out HE.out hS)
   have HS:=hid hS;have hal2:=HB1.out.trans (hB2.mono HB1.out.size);have HB2:=hid hal2;have HY:=hid hOy
   have hry:(ji y).length=M.length:=by simp[ji];exact hyl
   have CD:=hid (Sf g M.length (jA M) gb M.length R eb (ji b) w2 (HMX.out.below hB2) (by omega) (by omega) (fun h=>by
    have:M=[]:=List.length_eq_zero_iff.1 (by rw[←hRl,h];rfl)
    rw[this];rfl) (HO.out.below hB2) (by omega) (by omega))
   rw[hRl,Hvals.out] at CD;clear hS hB2 hal2 hOy HOK HMX HO Hvals hRl
   go_wp2_with fail
   refine CD.out.mono ?_;clear CD;rintro e w3 ⟨ev,B,sv,rfl,hBv,hEq,hSd,hB3⟩;obtain⟨A4,c4,rfl,hc4,hc4'⟩:=hEq.form;obtain⟨A5,c5,hsv,hc5,hc5'⟩:=hSd.form
   have hBl:B.length=jA M+1:=by
    have:=congrArg List.length hBv;simpa using this
   have hS5:(List.replicate (jA M) (0:Rat)++[1]).length=jA M+1:=by simp
   rw[hS5] at hsv hc5;subst hsv;rw[hBl];rw[hBl] at hEq;have HBl:=hid hBl;have HB3:=hid (HB2.out.trans (hB3.mono HB2.out.size));have HEq:=hid hEq;have HSd:=hid hSd;have HBv:=hid hBv;have HY3:=hid (HY.out.below hB3);have hgyl:gy<w3.heap.size:=HY3.out.own.lt
   have hrow:∀r∈B,r.2.2.length=M.length:=by
    intro r hr
    have h1:r.2.2∈yI (jA M) (M.map ji) (ji b):=by unfold yI;rw[←hBv];exact List.mem_map.2 ⟨r,hr,rfl⟩
    have:=CF (n:=jA M) (V:=M.map ji) (b:=ji b) (by simpa using hrb) _ h1;simpa using this
   have HRow:=hid hrow;generalize hwd:jA M=n at *;have HWD:=hid hwd;clear hB3 hEq hSd hBv HB2 HY hS5 hrow hBl hwd
   go_wp2
   go_loopg [6,43] (n+1) (fun gh rr ix wr=>∃i:Nat,rr = .int .i64 0∧ix = .int .i64 i∧i+gh=n+1∧Hid (∀j,j<i→Kg n (M.map ji) (ji b) (ji y) j=0)∧Hid (Below w3.heap.size w3 wr))
   case atStart=>exact⟨0,rfl,rfl,by omega,hid (by omega),hid (Below.refl _ _)⟩
   case round=>
    obtain⟨i,rfl,rfl,hi,hZ,hW⟩:=hrel
    cases gk with
    | zero=>
     have hin:¬((i:Int)<((n+1:Nat):Int)):=by omega
     have HZ:Hid (Kw n (M.map ji) (ji b) (ji y)):=hid (fun j hj=>hZ.out j (by omega));have HWe:=hid (HB3.out.trans (hW.out.mono HB3.out.size));clear hZ hW
     go_wp2
     go_ret;exact⟨HWe.out,.inl ⟨HE.out,HS.out,.inl ⟨by rw[HWD.out];exact HZ.out,rfl⟩⟩⟩
    | succ gh=>
     have hlt:i<n+1:=by omega
     have hlt':(i:Int)<((n+1:Nat):Int):=by omega
     obtain⟨r,hr⟩:∃r,B[i]? =some r:=⟨B[i]'(by rw[HBl.out];exact hlt),List.getElem?_eq_getElem (by rw[HBl.out];exact hlt)⟩
     obtain⟨g4,rfl,_,hg4,hcr⟩:=HEq.out.at_ hr
     have hi5:i<(List.replicate n (0:Rat)++[1]).length:=by simp;omega
     obtain⟨g5,s5,Z1,zn1,zc1,Z2,zn2,zc2,rfl,_,hg5,hrs,p0,p1,p2⟩:=HSd.out.at_ hi5;have hrm:r∈B:=List.mem_of_getElem? hr;have hrl:r.2.2.length=M.length:=HRow.out r hrm
     have hrE:(yI n (M.map ji) (ji b))[i]?.getD []=r.2.2:=by
      have:(yI n (M.map ji) (ji b))[i]? =some r.2.2:=by unfold yI;rw[←HBv.out,List.getElem?_map,hr];rfl
      rw[this];rfl
     obtain⟨hpo,hfp⟩:=HROK.out i hlt
     have hDv:Kg n (M.map ji) (ji b) (ji y) i=xM r.2.2 (ji y) M.length-(Qg n)[i]?.getD 0:=by unfold Kg;rw[hrE];simp
     rw[hrE] at hpo hfp;simp only[List.length_map] at hfp;change Rt _ _ ((Qg n)[i]?.getD 0) at hrs
     obtain⟨⟨er,hOr⟩,hcap⟩:=(HEq.out.2.2 r hrm)
     have c0:=(hW.out.cell (p:=⟨g4,i,none⟩) hg4).trans hcr;have q0:=(hW.out.cell (p:=⟨g5,i*3,none⟩) hg5).trans p0;have q1:=(hW.out.cell (p:=⟨g5,i*3+1,none⟩) hg5).trans p1;have q2:=(hW.out.cell (p:=⟨g5,i*3+2,none⟩) hg5).trans p2;have hg5r:g5<wr.heap.size:=Nat.lt_of_lt_of_le hg5 hW.out.size;have PD:=hid (fun (W:World) (hb:Below wr.heap.size wr W)=>BB W r.1 gy M.length r.2.1 M.length er ey r.2.2 (ji y) ((hOr.below hW.out).below hb) ((HY3.out.below hW.out).below hb) hrl.symm (by omega) (by omega) hpo);have MI:=hid (fun (W:World) (z:Value) (hb:Below wr.heap.size wr W) (hz:Rt W z (xM r.2.2 (ji y) M.length))=>WQ z (.agg #[.bool s5,.slice Z1 zn1 zc1,.slice Z2 zn2 zc2]) _ _ W hz ((hrs.below hW.out).below hb) hfp)
     have KS:Hid (∀z,Below wr.heap.size wr z→z.cell? ⟨g5,i*3,none⟩=some (.bool s5)∧z.cell? ⟨g5,i*3+1,none⟩=some (.slice Z1 zn1 zc1)∧z.cell? ⟨g5,i*3+2,none⟩=some (.slice Z2 zn2 zc2)∧Below wr.heap.size wr z):=hid (fun z hb=>
      ⟨(hb.cell (p:=⟨g5,i*3,none⟩) hg5r).trans q0,(hb.cell (p:=⟨g5,i*3+1,none⟩) hg5r).trans q1,(hb.cell (p:=⟨g5,i*3+2,none⟩) hg5r).trans q2,hb⟩)
     have KT:=hid (fun (x x':World) (hb:Below x.heap.size x x') (h5:Below wr.heap.size wr x)=>KS.out x' (h5.trans (hb.mono h5.size)));rw[←hDv] at MI;have HWr:=hid (hW.out.trans (Below.refl _ _));clear p0 p1 p2 hrs hOr hpo hfp hW hDv hrE hi5 hcr hg4 hg5;generalize hdd:Kg n (M.map ji) (ji b) (ji y) i=dd at *;have HDD:=hid hdd;clear hdd
     go_wp2
     go_region_held3 (fun z=>z.cell? ⟨g5,i*3,none⟩=some (.bool s5)∧z.cell? ⟨g5,i*3+1,none⟩=some (.slice Z1 zn1 zc1)∧z.cell? ⟨g5,i*3+2,none⟩=some (.slice Z2 zn2 zc2)∧Below wr.heap.size wr z)
      (first | exact KS.out _ (Below.refl _ _).drew | exact KT.out _ _ (by assumption) (by assumption))
      (first
       | (go_at_call 158;go_split_ands;refine(PD.out _ (by assumption)).mono ?_;rintro e4 w4 ⟨pv,rfl,hpv,hB4⟩)
       | (go_at_call 109;go_split_ands;refine(MI.out _ pv (by assumption) hpv).mono ?_;rintro e5 w5 ⟨mv,rfl,hmv,hB5⟩)
       | (go_at_call 114;go_split_ands;refine(GP mv dd _ hmv).mono ?_;rintro e6 w6 ⟨rfl,hB6⟩))
     have hB6':Below wr.heap.size wr w6:=by go_split_ands;assumption
     have HB6:=hid (HWr.out.trans (hB6'.mono HWr.out.size));clear hpv hB4 hmv hB5 hB6 hB6' PD MI KS KT c0 q0 q1 q2 hcap;by_cases h0:dd=0
     ·have hsg:qM dd=0:=by rw[h0];rfl
      have HZ2:Hid (∀j,j<i+1→Kg n (M.map ji) (ji b) (ji y) j=0):=hid (fun j hj=>by
       rcases Nat.lt_or_ge j i with h | h
       ·exact hZ.out j h
       ·have:j=i:=by omega
        subst this;rw[HDD.out];exact h0)
      rw[hsg];clear hZ h0 hsg HDD
      go_wp2
      go_roundg gh
      case rel=>exact⟨i+1,rfl,by go_num,by omega,HZ2,HB6⟩
      case measure=>omega
     ·have hsg:(qM dd != 0)=true:=by
       have h1:dd.num≠0:=fun h=>h0 (Rat.num_eq_zero.1 h)
       unfold qM;rw[if_neg h1]
       split <;> rfl
      have HN:Hid (¬Kw n (M.map ji) (ji b) (ji y)):=hid (fun h=>h0 (by rw[←HDD.out];exact h i hlt));generalize qM dd=sg at *;clear hZ h0 HDD;have HBf:=hid (HB3.out.trans (HB6.out.mono HB3.out.size))
      go_wp2
      go_ret;exact⟨HBf.out,.inl ⟨HE.out,HS.out,.inr ⟨by rw[HWD.out];exact HN.out,rfl⟩⟩⟩
  ·have HS:=hid hS
   have HB2:=hid (HB1.out.trans (hB2.mono HB1.out.size))
   have hne:(xc y M.length != 0)=true:=by simpa using hS
   clear hS hB2 HOK HMX HO Hvals;generalize hec:xc y M.length=ec at *;have HEC:=hid hec;clear hec
   go_wp2
   go_ret;exact⟨HB2.out,.inr (.inl ⟨HE.out,by rw[HEC.out];exact HS.out,by rw[HEC.out];rfl⟩)⟩
 ·have HX:=hid hE
  have hne:(qr M b != 0)=true:=by simpa using hE
  clear HOK hE RS;generalize hec:qr M b=ec at *;have HEC:=hid hec;clear hec
  go_wp2
  go_ret;exact⟨hB1,.inr (.inr ⟨by rw[HEC.out];exact HX.out,by rw[HEC.out];rfl⟩)⟩
end Go.Proofs.YtneafcdfnhnpnaaGreatDoor
namespace Go.Proofs.YtneafcdfnhnpnaaGreatDoor
open Go.RowKit Go.Lib
def Q5 (x:Nat):Bool:=decide (x<WB)
theorem YK {x:Nat} (h:Q5 x=true):jl x:= .small (of_decide_eq_true h)
def xJ (q:Rat):Bool:=Q5 q.num.natAbs&&Q5 q.den
theorem yd {q:Rat} (h:xJ q=true):kv q:=by
 unfold xJ at h;rw[Bool.and_eq_true] at h;exact⟨YK h.1,YK h.2⟩
def KN (p q:Rat):Bool:=xJ p&&xJ q&&Q5 (p.num.natAbs*q.den+q.num.natAbs*p.den)
theorem YL {p q:Rat} (h:KN p q=true):xO p q:=by
 unfold KN at h;rw[Bool.and_eq_true,Bool.and_eq_true] at h;exact⟨yd h.1.1,yd h.1.2,YK h.2⟩
def Yf (o:Nat) (L P:List Rat):Bool:=
 xJ (L[o]?.getD 0)&&(List.range L.length).all fun j=>decide (j<o)||(xJ (P[j]?.getD 0)&&KN (L[j]?.getD 0) (L[o]?.getD 0*P[j]?.getD 0))
theorem R4 {o:Nat} {L P:List Rat} (h:Yf o L P=true):Qv o L P:=by
 unfold Yf at h;rw[Bool.and_eq_true] at h;refine⟨yd h.1,fun j hj hl=> ?_⟩;have:=List.all_eq_true.1 h.2 j (List.mem_range.2 hl);rw[Bool.or_eq_true,Bool.and_eq_true] at this;rcases this with h1 | h1
 ·have:=of_decide_eq_true h1;omega
 ·exact⟨yd h1.1,YL h1.2⟩
def ZI (row col:Nat) (S:jz Rat):Bool:=
 (jG (jX row S) S.cols.length).all xJ &&
 (List.range (elDiv jd row col S).length).all fun i=>decide (i=S.cols.length)||match (elDiv jd row col S)[i]? with
  | none=>true
  | some r=>Yf col r.2.2 (jG (elDiv jd row col S) S.cols.length)
theorem FU {row col:Nat} {S:jz Rat} (h:ZI row col S=true):zq row col S:=by
 unfold ZI at h;rw[Bool.and_eq_true] at h;refine⟨fun x hx=>yd (List.all_eq_true.1 h.1 x hx),fun i r hi hne=> ?_⟩;have:=List.all_eq_true.1 h.2 i (List.mem_range.2 (List.getElem?_eq_some_iff.1 hi).1);rw[Bool.or_eq_true,hi] at this;rcases this with h1 | h1
 ·exact absurd (of_decide_eq_true h1) hne
 ·exact R4 h1
def QZ (n:Nat):Nat→Nat→jz Rat→Bool
 | 0,_,_=>true
 | k+1,fr,S=>match kP jd S.rows S.cols.length (n-fr) fr with
  | none=>true
  | some (row,col)=>ZI row col S&&QZ n k (col+1) (jU jd row col S)
theorem U6 {n:Nat} :∀(k fr:Nat) (S:jz Rat),QZ n k fr S=true→qG n k fr S
 | 0,_,_,_=>trivial
 | k+1,fr,S,h=>by
  unfold qG;unfold QZ at h;split
  ·trivial
  ·rename_i row col hp
   rw[hp] at h;simp only[Bool.and_eq_true] at h;exact⟨FU h.1,U6 k _ _ h.2⟩
def Xn (n:Nat) (M:List (List Rat)):Bool:=QZ n M.length 0 ⟨zO M,[],[],false⟩
theorem Ze {n:Nat} {M:List (List Rat)} (h:Xn n M=true):yS n M:=U6 _ _ _ h
def Vl (S:jz Rat):Bool:=S.rows.all fun r=>r.2.2.all xJ
theorem Nj {S:jz Rat} (h:Vl S=true):xn S:=fun r hr x hx=>yd (List.all_eq_true.1 (List.all_eq_true.1 h r hr) x hx)
def YS (n:Nat) (M:List (List Rat)):Bool:=Xn n (M.map List.reverse)&&Vl (ko jd n (M.map List.reverse))
theorem Dm {n:Nat} {M:List (List Rat)} (h:YS n M=true):Z7 n M:=by
 unfold YS at h;rw[Bool.and_eq_true] at h;exact⟨Ze h.1,Nj h.2⟩
def ZE (n:Nat) (M:List (List Rat)) (b:List Rat):Bool:=Xn (n+1) (xW M b)&&(JG n M b).all xJ
theorem FN {n:Nat} {M:List (List Rat)} {b:List Rat} (h:ZE n M b=true):Ue n M b:=by
 unfold ZE at h;rw[Bool.and_eq_true] at h;exact⟨Ze h.1,fun q hq=>yd (List.all_eq_true.1 h.2 q hq)⟩
def Yt (n:Nat) (M:List (List Rat)):Bool:=
 Xn n M&&((List.range (ko jd n M).piv.length).all fun k=>xJ (jQ (ko jd n M) k)&&xJ ((ko jd n M).piv[k]?.getD 0))&&xJ (qx n M)
theorem SF {n:Nat} {M:List (List Rat)} (h:Yt n M=true):Qw n M:=by
 unfold Yt at h;rw[Bool.and_eq_true,Bool.and_eq_true] at h;refine⟨Ze h.1.1,fun k hk=> ?_,yd h.2⟩;have:=List.all_eq_true.1 h.1.2 k (List.mem_range.2 hk);rw[Bool.and_eq_true] at this;exact⟨yd this.1,yd this.2⟩
def Wy (L P:List Rat):Bool:=(List.range L.length).all fun k=>xJ (L[k]?.getD 0)&&xJ (P[k]?.getD 0)&&KN (xM L P k) (L[k]?.getD 0*P[k]?.getD 0)
theorem BA {L P:List Rat} (h:Wy L P=true):XY L P:=fun k hk=>by
 have:=List.all_eq_true.1 h k (List.mem_range.2 hk);rw[Bool.and_eq_true,Bool.and_eq_true] at this;exact⟨yd this.1.1,yd this.1.2,YL this.2⟩
def W8 (n:Nat) (V:List (List Rat)) (b y:List Rat):Bool:=
 (List.range (n+1)).all fun j=>Wy ((yI n V b)[j]?.getD []) y&&KN (xM ((yI n V b)[j]?.getD []) y V.length) ((Qg n)[j]?.getD 0)
theorem Cw {n:Nat} {V:List (List Rat)} {b y:List Rat} (h:W8 n V b y=true):Uc n V b y:=fun j hj=>by
 have:=List.all_eq_true.1 h j (List.mem_range.2 hj);rw[Bool.and_eq_true] at this;exact⟨BA this.1,YL this.2⟩
def zt:List (List jn):=[[[49],[50],[51]],[[50],[52],[55]]]
def QC:List jn:=[[52],[57]]
def Kx:List (List jn):=[[[49],[50]],[[51],[52]]]
def QE:List (List jn):=[[[49],[49]],[[50],[50]]]
def QD:List jn:=[[49],[51]]
def QG:List jn:=[[45,50],[49]]
theorem Ev:jT zt=0:=by decide +kernel
theorem QF:zt.map ji=[[1,2,3],[2,4,7]]:=by decide +kernel
theorem Ew:qr zt QC=0:=by decide +kernel
theorem Uh:ji QC=[4,9]:=by decide +kernel
theorem Ex:jT Kx=0:=by decide +kernel
theorem Ui:Kx.map ji=[[1,2],[3,4]]:=by decide +kernel
theorem Ey:qr QE QD=0:=by decide +kernel
theorem Ez:xc QG 2=0:=by decide +kernel
theorem Uj:QE.map ji=[[1,1],[2,2]]:=by decide +kernel
theorem Uk:ji QD=[1,3]:=by decide +kernel
theorem Ul:ji QG=[-2,1]:=by decide +kernel
theorem Es:YS 3 [[1,2,3],[2,4,7]]=true:=by decide +kernel
theorem Et:KX 3 [[1,2,3],[2,4,7]]=[[1,-1/2,0]]:=by decide +kernel
theorem Eu:yR [[1,-1/2,0]]:=by
 intro L hL q hq;simp only[List.mem_singleton] at hL;subst hL;simp only[List.mem_cons,List.not_mem_nil,or_false] at hq;rcases hq with rfl | rfl | rfl <;> decide +kernel
theorem EA:ZE 3 [[1,2,3],[2,4,7]] [4,9]=true:=by decide +kernel
theorem EB:JG 3 [[1,2,3],[2,4,7]] [4,9]=[1,0,1]:=by decide +kernel
theorem EC:3 ∉ (Ql 3 [[1,2,3],[2,4,7]] [4,9]).cols:=by decide +kernel
theorem En:Yt 2 [[1,2],[3,4]]=true:=by decide +kernel
theorem Eo:qx 2 [[1,2],[3,4]] = -2:=by decide +kernel
theorem Ep:W8 2 [[1,1],[2,2]] [1,3] [-2,1]=true:=by decide +kernel
theorem Er:Kw 2 [[1,1],[2,2]] [1,3] [-2,1]:=by
 intro j hj;rcases j with _ | _ | _ | j
 ·decide +kernel
 ·decide +kernel
 ·decide +kernel
 ·omega
