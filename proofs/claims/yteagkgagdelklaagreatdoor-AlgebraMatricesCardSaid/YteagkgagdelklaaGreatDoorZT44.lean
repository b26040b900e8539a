/- Contract: CheckRefute. -/
import Derived.Test.YteagkgagdelklaaGreatDoorZT42
import Derived.Test.YteagkgagdelklaaGreatDoorZT43
set_option maxRecDepth 100000
set_option maxHeartbeats 4000000
namespace Go.Proofs.YteagkgagdelklaaGreatDoor
open Go.RowKit Go.Lib
attribute [local go_sem ↓] Go.wp_at_zero Go.wp_at_succ
theorem qB.at_ {w:World} {base n c:Nat} {A:Option Addr} {B:List js} (h:qB w base (.slice A n c) B) {j:Nat} {r:js} (hr:B[j]? =some r):
  ∃g,A=some ⟨g,0,none⟩∧base≤g∧g<w.heap.size∧w.cell? ⟨g,j,none⟩=some (.slice (some ⟨r.1,0,none⟩) r.2.2.length r.2.1):=by
 obtain⟨hj,hrj⟩:=List.getElem?_eq_some_iff.1 hr
 rcases h.1.2 with ⟨hA,hn⟩ | ⟨g,cap,cur,hA,hb,hg,_,_,_,htake⟩
 ·omega
 ·injection hA with hA1 hA2 hA3
  subst hA1;refine⟨g,rfl,hb,(Array.getElem?_eq_some_iff.1 hg).1,?_⟩;rw[cell_of_row w g j cur _ (0,0) hg]
  have hu:(B.map fun r=>Value.slice (some ⟨r.1,0,none⟩) r.2.2.length r.2.1)[j]? =some (.slice (some ⟨r.1,0,none⟩) r.2.2.length r.2.1):=by rw[Qao,hr];rfl
  rw[←htake,QbR] at hu;split at hu
  ·simpa using hu
  ·cases hu
theorem qB.form {w:World} {base:Nat} {v:Value} {B:List js} (h:qB w base v B):∃A c,v = .slice A B.length c∧B.length≤c∧c≤maxLen:=jX h.1
def zh (n:Nat) (V:List (List Rat)) (b:List Rat):List (List Rat):=(List.range n).map (qu V)++[b]
def QQ (n:Nat):List Rat:=List.replicate n 0++[1]
def K0 (n:Nat) (V:List (List Rat)) (b y:List Rat) (j:Nat):Rat:=yb ((zh n V b)[j]?.getD []) y V.length-(QQ n)[j]?.getD 0
def Qf (n:Nat) (V:List (List Rat)) (b y:List Rat):Prop:=∀j,j<n+1→K0 n V b y j=0
def U8 (n:Nat) (V:List (List Rat)) (b y:List Rat):Prop:=∀j,j<n+1→YQ ((zh n V b)[j]?.getD []) y∧yf (yb ((zh n V b)[j]?.getD []) y V.length) ((QQ n)[j]?.getD 0)
def LQ (M:List (List jl)) (b y:List jl) (w:World) (e:Ending) (w':World):Prop:=
 Below w.heap.size w w'∧((qE M b=0∧xu y M.length=0∧((Qf (ji M) (M.map jg) (jg b) (jg y)∧e = .returned (.int .i64 0))∨(¬Qf (ji M) (M.map jg) (jg b) (jg y)∧e = .returned (.int .i64 19)))) ∨
  (qE M b=0∧xu y M.length≠0∧e = .returned (.int .i64 (xu y M.length)))∨(qE M b≠0∧e = .returned (.int .i64 (qE M b))))
theorem LJ {n:Nat} {V:List (List Rat)} {b:List Rat} (hb:b.length=V.length):∀L∈zh n V b,L.length=V.length:=by
 intro L hL;rcases List.mem_append.1 hL with h | h
 ·obtain⟨j,_,rfl⟩:=List.mem_map.1 h
  simp[qu]
 ·rw[List.mem_singleton.1 h];exact hb
theorem Ry (v u t:Value) (M:List (List jl)) (b y:List jl) (w:World) (hv:jT w v M) (hu:jD w u (jN b)) (ht:jD w t (jN y)) (hT:∀r∈M,∀l∈r,xd l) (hTb:∀l∈b,xd l) (hTy:∀l∈y,xd l) (hG:jK w)
  (hok:qE M b=0→xu y M.length=0→U8 (ji M) (M.map jg) (jg b) (jg y)):
  Calls Tryz.prog 29 #[v,u,t] w (LQ M b y w):=by
 have RE:=hid (Mf v u M b w hv hu hT hTb hG);have RS:=hid (fun (hl:M.length≤1000000) W (hw:Below w.heap.size w W)=>Mi t y M.length W (ht.below hw) hl hTy (hG.below hw));have HOK:=hid hok;obtain⟨A,c,rfl,_,_⟩:=hv.form;obtain⟨A2,c2,rfl,_,_⟩:=hu.form;obtain⟨A3,c3,rfl,_,_⟩:=ht.form;simp only[kT] at RE RS ⊢;clear hv hu ht hT hTb hTy hG hok;go_enter Tryz.func29,Tryz.ntmps29
 go_wp2_with fail
 refine RE.out.mono ?_;clear RE;rintro e w1 ⟨hB1,⟨hE,hM,hbl,g,R,gb,eb,rfl,hg,hnew,hmx,hvals,hgb,hO⟩ | ⟨hE,v1,rfl⟩⟩
 ·obtain⟨hm1,hn1⟩:=J8 hM
  have hRl:R.length=M.length:=by rw[←yd R,hvals];simp
  have HB1:=hid hB1;have HE:=hid hE;have HM:=hid hM;have HMX:=hid hmx;have HO:=hid hO;have Hvals:=hid hvals
  have hrb:(jg b).length=M.length:=by simp[jg];exact hbl
  clear hB1 hE hM hmx hO hvals hnew
  go_wp2_with fail
  refine(RS.out (by omega) _ HB1.out).mono ?_;clear RS;rintro e w2 ⟨hB2,⟨hS,hyl,gy,ey,rfl,hgy,hOy⟩ | ⟨hS,rfl⟩⟩
  ·have HROK:=hid (HOK.out HE.out hS)
   have HS:=hid hS;have hal2:=HB1.out.trans (hB2.mono HB1.out.size);have HB2:=hid hal2;have HY:=hid hOy
   have hry:(jg y).length=M.length:=by simp[jg];exact hyl
   have CD:=hid (Nc g M.length (ji M) gb M.length R eb (jg b) w2 (HMX.out.below hB2) (by omega) (by omega) (fun h=>by
    have:M=[]:=List.length_eq_zero_iff.1 (by rw[←hRl,h];rfl)
    rw[this];rfl) (HO.out.below hB2) (by omega) (by omega))
   rw[hRl,Hvals.out] at CD;clear hS hB2 hal2 hOy HOK HMX HO Hvals hRl
   go_wp2_with fail
   refine CD.out.mono ?_;clear CD;rintro e w3 ⟨ev,B,sv,rfl,hBv,hEq,hSd,hB3⟩;obtain⟨A4,c4,rfl,hc4,hc4'⟩:=hEq.form;obtain⟨A5,c5,hsv,hc5,hc5'⟩:=hSd.form
   have hBl:B.length=ji M+1:=by
    have:=congrArg List.length hBv;simpa using this
   have hS5:(List.replicate (ji M) (0:Rat)++[1]).length=ji M+1:=by simp
   rw[hS5] at hsv hc5;subst hsv;rw[hBl];rw[hBl] at hEq;have HBl:=hid hBl;have HB3:=hid (HB2.out.trans (hB3.mono HB2.out.size));have HEq:=hid hEq;have HSd:=hid hSd;have HBv:=hid hBv;have HY3:=hid (HY.out.below hB3);have hgyl:gy<w3.heap.size:=HY3.out.own.lt
   have hrow:∀r∈B,r.2.2.length=M.length:=by
    intro r hr
    have h1:r.2.2∈zh (ji M) (M.map jg) (jg b):=by unfold zh;rw[←hBv];exact List.mem_map.2 ⟨r,hr,rfl⟩
    have:=LJ (n:=ji M) (V:=M.map jg) (b:=jg b) (by simpa using hrb) _ h1;simpa using this
   have HRow:=hid hrow;generalize hwd:ji M=n at *;have HWD:=hid hwd;clear hB3 hEq hSd hBv HB2 HY hS5 hrow hBl hwd
   go_wp2
   go_loopg [6,43] (n+1) (fun gh rr ix wr=>∃i:Nat,rr = .int .i64 0∧ix = .int .i64 i∧i+gh=n+1∧Hid (∀j,j<i→K0 n (M.map jg) (jg b) (jg y) j=0)∧Hid (Below w3.heap.size w3 wr))
   case atStart=>exact⟨0,rfl,rfl,by omega,hid (by omega),hid (Below.refl _ _)⟩
   case round=>
    obtain⟨i,rfl,rfl,hi,hZ,hW⟩:=hrel
    cases gk with
    | zero=>
     have hin:¬((i:Int)<((n+1:Nat):Int)):=by omega
     have HZ:Hid (Qf n (M.map jg) (jg b) (jg y)):=hid (fun j hj=>hZ.out j (by omega));have HWe:=hid (HB3.out.trans (hW.out.mono HB3.out.size));clear hZ hW
     go_wp2
     go_ret;exact⟨HWe.out,.inl ⟨HE.out,HS.out,.inl ⟨by rw[HWD.out];exact HZ.out,rfl⟩⟩⟩
    | succ gh=>
     have hlt:i<n+1:=by omega
     have hlt':(i:Int)<((n+1:Nat):Int):=by omega
     obtain⟨r,hr⟩:∃r,B[i]? =some r:=⟨B[i]'(by rw[HBl.out];exact hlt),Qaa (by rw[HBl.out];exact hlt)⟩
     obtain⟨g4,rfl,_,hg4,hcr⟩:=HEq.out.at_ hr
     have hi5:i<(List.replicate n (0:Rat)++[1]).length:=by simp;omega
     obtain⟨g5,s5,Z1,zn1,zc1,Z2,zn2,zc2,rfl,_,hg5,hrs,p0,p1,p2⟩:=HSd.out.at_ hi5;have hrm:r∈B:=Qab hr;have hrl:r.2.2.length=M.length:=HRow.out r hrm
     have hrE:(zh n (M.map jg) (jg b))[i]?.getD []=r.2.2:=by
      have:(zh n (M.map jg) (jg b))[i]? =some r.2.2:=by unfold zh;rw[←HBv.out,Qao,hr];rfl
      rw[this];rfl
     obtain⟨hpo,hfp⟩:=HROK.out i hlt
     have hDv:K0 n (M.map jg) (jg b) (jg y) i=yb r.2.2 (jg y) M.length-(QQ n)[i]?.getD 0:=by unfold K0;rw[hrE];simp
     rw[hrE] at hpo hfp;simp only[Qar] at hfp;change Rt _ _ ((QQ n)[i]?.getD 0) at hrs
     obtain⟨⟨er,hOr⟩,hcap⟩:=(HEq.out.2.2 r hrm)
     have c0:=(hW.out.cell (p:=⟨g4,i,none⟩) hg4).trans hcr;have q0:=(hW.out.cell (p:=⟨g5,i*3,none⟩) hg5).trans p0;have q1:=(hW.out.cell (p:=⟨g5,i*3+1,none⟩) hg5).trans p1;have q2:=(hW.out.cell (p:=⟨g5,i*3+2,none⟩) hg5).trans p2;have hg5r:g5<wr.heap.size:=Qac hg5 hW.out.size;have PD:=hid (fun (W:World) (hb:Below wr.heap.size wr W)=>FA W r.1 gy M.length r.2.1 M.length er ey r.2.2 (jg y) ((hOr.below hW.out).below hb) ((HY3.out.below hW.out).below hb) hrl.symm (by omega) (by omega) hpo);have MI:=hid (fun (W:World) (z:Value) (hb:Below wr.heap.size wr W) (hz:Rt W z (yb r.2.2 (jg y) M.length))=>Ma z (.agg #[.bool s5,.slice Z1 zn1 zc1,.slice Z2 zn2 zc2]) _ _ W hz ((hrs.below hW.out).below hb) hfp)
     have KS:Hid (∀z,Below wr.heap.size wr z→z.cell? ⟨g5,i*3,none⟩=some (.bool s5)∧z.cell? ⟨g5,i*3+1,none⟩=some (.slice Z1 zn1 zc1)∧z.cell? ⟨g5,i*3+2,none⟩=some (.slice Z2 zn2 zc2)∧Below wr.heap.size wr z):=hid (fun z hb=>
      ⟨(hb.cell (p:=⟨g5,i*3,none⟩) hg5r).trans q0,(hb.cell (p:=⟨g5,i*3+1,none⟩) hg5r).trans q1,(hb.cell (p:=⟨g5,i*3+2,none⟩) hg5r).trans q2,hb⟩)
     have KT:=hid (fun (x x':World) (hb:Below x.heap.size x x') (h5:Below wr.heap.size wr x)=>KS.out x' (h5.trans (hb.mono h5.size)));rw[←hDv] at MI;have HWr:=hid (hW.out.trans (Below.refl _ _));clear p0 p1 p2 hrs hOr hpo hfp hW hDv hrE hi5 hcr hg4 hg5;generalize hdd:K0 n (M.map jg) (jg b) (jg y) i=dd at *;have HDD:=hid hdd;clear hdd
     go_wp2
     go_region_held3 (fun z=>z.cell? ⟨g5,i*3,none⟩=some (.bool s5)∧z.cell? ⟨g5,i*3+1,none⟩=some (.slice Z1 zn1 zc1)∧z.cell? ⟨g5,i*3+2,none⟩=some (.slice Z2 zn2 zc2)∧Below wr.heap.size wr z)
      (first | exact KS.out _ (Below.refl _ _).drew | exact KT.out _ _ (by assumption) (by assumption))
      (first
       | (go_at_call 70;go_split_ands;refine(PD.out _ (by assumption)).mono ?_;rintro e4 w4 ⟨pv,rfl,hpv,hB4⟩)
       | (go_at_call 71;go_split_ands;refine(MI.out _ pv (by assumption) hpv).mono ?_;rintro e5 w5 ⟨mv,rfl,hmv,hB5⟩)
       | (go_at_call 72;go_split_ands;refine(Ee mv dd _ hmv).mono ?_;rintro e6 w6 ⟨rfl,hB6⟩))
     have hB6':Below wr.heap.size wr w6:=by go_split_ands;assumption
     have HB6:=hid (HWr.out.trans (hB6'.mono HWr.out.size));clear hpv hB4 hmv hB5 hB6 hB6' PD MI KS KT c0 q0 q1 q2 hcap;by_cases h0:dd=0
     ·have hsg:qS dd=0:=by rw[h0];rfl
      have HZ2:Hid (∀j,j<i+1→K0 n (M.map jg) (jg b) (jg y) j=0):=hid (fun j hj=>by
       rcases Qae j i with h | h
       ·exact hZ.out j h
       ·have:j=i:=by omega
        subst this;rw[HDD.out];exact h0)
      rw[hsg];clear hZ h0 hsg HDD
      go_wp2
      go_roundg gh
      case rel=>exact⟨i+1,rfl,by go_num,by omega,HZ2,HB6⟩
      case measure=>omega
     ·have hsg:(qS dd != 0)=true:=by
       have h1:dd.num≠0:=fun h=>h0 (Rat.num_eq_zero.1 h)
       unfold qS;rw[if_neg h1]
       split <;> rfl
      have HN:Hid (¬Qf n (M.map jg) (jg b) (jg y)):=hid (fun h=>h0 (by rw[←HDD.out];exact h i hlt));generalize qS dd=sg at *;clear hZ h0 HDD;have HBf:=hid (HB3.out.trans (HB6.out.mono HB3.out.size))
      go_wp2
      go_ret;exact⟨HBf.out,.inl ⟨HE.out,HS.out,.inr ⟨by rw[HWD.out];exact HN.out,rfl⟩⟩⟩
  ·have HS:=hid hS
   have HB2:=hid (HB1.out.trans (hB2.mono HB1.out.size))
   have hne:(xu y M.length != 0)=true:=by simpa using hS
   clear hS hB2 HOK HMX HO Hvals;generalize hec:xu y M.length=ec at *;have HEC:=hid hec;clear hec
   go_wp2
   go_ret;exact⟨HB2.out,.inr (.inl ⟨HE.out,by rw[HEC.out];exact HS.out,by rw[HEC.out];rfl⟩)⟩
 ·have HX:=hid hE
  have hne:(qE M b != 0)=true:=by simpa using hE
  clear HOK hE RS;generalize hec:qE M b=ec at *;have HEC:=hid hec;clear hec
  go_wp2
  go_ret;exact⟨hB1,.inr (.inr ⟨by rw[HEC.out];exact HX.out,by rw[HEC.out];rfl⟩)⟩
end Go.Proofs.YteagkgagdelklaaGreatDoor
namespace Go.Proofs.YteagkgagdelklaaGreatDoor
open Go.RowKit Go.Lib
def XO (x:Nat):Bool:=decide (x<WB)
theorem Zu {x:Nat} (h:XO x=true):jp x:= .small (QaL h)
def x5 (q:Rat):Bool:=XO q.num.natAbs&&XO q.den
theorem yI {q:Rat} (h:x5 q=true):kI q:=by
 unfold x5 at h;rw[Qa7] at h;exact⟨Zu h.1,Zu h.2⟩
def Qu (p q:Rat):Bool:=x5 p&&x5 q&&XO (p.num.natAbs*q.den+q.num.natAbs*p.den)
theorem Zv {p q:Rat} (h:Qu p q=true):yf p q:=by
 unfold Qu at h;rw[Qa7,Qa7] at h;exact⟨yI h.1.1,yI h.1.2,Zu h.2⟩
def Y3 (o:Nat) (L P:List Rat):Bool:=
 x5 (L[o]?.getD 0)&&(List.range L.length).all fun j=>decide (j<o)||(x5 (P[j]?.getD 0)&&Qu (L[j]?.getD 0) (L[o]?.getD 0*P[j]?.getD 0))
theorem TZ {o:Nat} {L P:List Rat} (h:Y3 o L P=true):Xc o L P:=by
 unfold Y3 at h;rw[Qa7] at h;refine⟨yI h.1,fun j hj hl=> ?_⟩;have:=List.all_eq_true.1 h.2 j (List.mem_range.2 hl);rw[Bool.or_eq_true,Qa7] at this;rcases this with h1 | h1
 ·have:=QaL h1;omega
 ·exact⟨yI h1.1,Zv h1.2⟩
def UJ (row col:Nat) (S:jw Rat):Bool:=
 (jL (j8 row S) S.cols.length).all x5 &&
 (List.range (elDiv jc row col S).length).all fun i=>decide (i=S.cols.length)||match (elDiv jc row col S)[i]? with
  | none=>true
  | some r=>Y3 col r.2.2 (jL (elDiv jc row col S) S.cols.length)
theorem O9 {row col:Nat} {S:jw Rat} (h:UJ row col S=true):zY row col S:=by
 unfold UJ at h;rw[Qa7] at h;refine⟨fun x hx=>yI (List.all_eq_true.1 h.1 x hx),fun i r hi hne=> ?_⟩;have:=List.all_eq_true.1 h.2 i (List.mem_range.2 (List.getElem?_eq_some_iff.1 hi).1);rw[Bool.or_eq_true,hi] at this;rcases this with h1 | h1
 ·exact absurd (QaL h1) hne
 ·exact TZ h1
def XK (n:Nat):Nat→Nat→jw Rat→Bool
 | 0,_,_=>true
 | k+1,fr,S=>match kK jc S.rows S.cols.length (n-fr) fr with
  | none=>true
  | some (row,col)=>UJ row col S&&XK n k (col+1) (kg jc row col S)
theorem V4 {n:Nat} :∀(k fr:Nat) (S:jw Rat),XK n k fr S=true→qU n k fr S
 | 0,_,_,_=>trivial
 | k+1,fr,S,h=>by
  unfold qU;unfold XK at h;split
  ·trivial
  ·rename_i row col hp
   rw[hp] at h;simp only[Qa7] at h;exact⟨O9 h.1,V4 k _ _ h.2⟩
def Ye (n:Nat) (M:List (List Rat)):Bool:=XK n M.length 0 ⟨qX M,[],[],false⟩
theorem Z9 {n:Nat} {M:List (List Rat)} (h:Ye n M=true):yA n M:=V4 _ _ _ h
def Wk (S:jw Rat):Bool:=S.rows.all fun r=>r.2.2.all x5
theorem DH {S:jw Rat} (h:Wk S=true):xm S:=fun r hr x hx=>yI (List.all_eq_true.1 (List.all_eq_true.1 h r hr) x hx)
def ZE (n:Nat) (M:List (List Rat)):Bool:=Ye n (M.map List.reverse)&&Wk (j4 jc n (M.map List.reverse))
theorem Bb {n:Nat} {M:List (List Rat)} (h:ZE n M=true):YN n M:=by
 unfold ZE at h;rw[Qa7] at h;exact⟨Z9 h.1,DH h.2⟩
def UG (n:Nat) (M:List (List Rat)) (b:List Rat):Bool:=Ye (n+1) (yq M b)&&(Kh n M b).all x5
theorem O0 {n:Nat} {M:List (List Rat)} {b:List Rat} (h:UG n M b=true):Va n M b:=by
 unfold UG at h;rw[Qa7] at h;exact⟨Z9 h.1,fun q hq=>yI (List.all_eq_true.1 h.2 q hq)⟩
def Zd (n:Nat) (M:List (List Rat)):Bool:=
 Ye n M&&((List.range (j4 jc n M).piv.length).all fun k=>x5 (qO (j4 jc n M) k)&&x5 ((j4 jc n M).piv[k]?.getD 0))&&x5 (zc n M)
theorem NA {n:Nat} {M:List (List Rat)} (h:Zd n M=true):U0 n M:=by
 unfold Zd at h;rw[Qa7,Qa7] at h;refine⟨Z9 h.1.1,fun k hk=> ?_,yI h.2⟩;have:=List.all_eq_true.1 h.1.2 k (List.mem_range.2 hk);rw[Qa7] at this;exact⟨yI this.1,yI this.2⟩
def G7 (L P:List Rat):Bool:=(List.range L.length).all fun k=>x5 (L[k]?.getD 0)&&x5 (P[k]?.getD 0)&&Qu (yb L P k) (L[k]?.getD 0*P[k]?.getD 0)
theorem Fz {L P:List Rat} (h:G7 L P=true):YQ L P:=fun k hk=>by
 have:=List.all_eq_true.1 h k (List.mem_range.2 hk);rw[Qa7,Qa7] at this;exact⟨yI this.1.1,yI this.1.2,Zv this.2⟩
def Mr (n:Nat) (V:List (List Rat)) (b y:List Rat):Bool:=
 (List.range (n+1)).all fun j=>G7 ((zh n V b)[j]?.getD []) y&&Qu (yb ((zh n V b)[j]?.getD []) y V.length) ((QQ n)[j]?.getD 0)
theorem Lz {n:Nat} {V:List (List Rat)} {b y:List Rat} (h:Mr n V b y=true):U8 n V b y:=fun j hj=>by
 have:=List.all_eq_true.1 h j (List.mem_range.2 hj);rw[Qa7] at this;exact⟨Fz this.1,Zv this.2⟩
def z6:List (List jl):=[[[49],[50],[51]],[[50],[52],[55]]]
def Xg:List jl:=[[52],[57]]
def Qg:List (List jl):=[[[49],[50]],[[51],[52]]]
def Xi:List (List jl):=[[[49],[49]],[[50],[50]]]
def Xh:List jl:=[[49],[51]]
def Xk:List jl:=[[45,50],[49]]
theorem Sr:jG z6=0:=by decide +kernel
theorem Xj:z6.map jg=[[1,2,3],[2,4,7]]:=by decide +kernel
theorem Ss:qE z6 Xg=0:=by decide +kernel
theorem Vb:jg Xg=[4,9]:=by decide +kernel
theorem St:jG Qg=0:=by decide +kernel
theorem Vc:Qg.map jg=[[1,2],[3,4]]:=by decide +kernel
theorem Su:qE Xi Xh=0:=by decide +kernel
theorem Sv:xu Xk 2=0:=by decide +kernel
theorem Vd:Xi.map jg=[[1,1],[2,2]]:=by decide +kernel
theorem Ve:jg Xh=[1,3]:=by decide +kernel
theorem Vf:jg Xk=[-2,1]:=by decide +kernel
theorem So:ZE 3 [[1,2,3],[2,4,7]]=true:=by decide +kernel
theorem Sp:ze 3 [[1,2,3],[2,4,7]]=[[1,-1/2,0]]:=by decide +kernel
theorem Sq:xV [[1,-1/2,0]]:=by
 intro L hL q hq;simp only[Qb3] at hL;subst hL;simp only[QbC,QbJ,or_false] at hq;rcases hq with rfl | rfl | rfl <;> decide +kernel
theorem Sw:UG 3 [[1,2,3],[2,4,7]] [4,9]=true:=by decide +kernel
theorem Sy:Kh 3 [[1,2,3],[2,4,7]] [4,9]=[1,0,1]:=by decide +kernel
theorem Sz:3 ∉ (QW 3 [[1,2,3],[2,4,7]] [4,9]).cols:=by decide +kernel
theorem Sj:Zd 2 [[1,2],[3,4]]=true:=by decide +kernel
theorem Sk:zc 2 [[1,2],[3,4]] = -2:=by decide +kernel
theorem Sm:Mr 2 [[1,1],[2,2]] [1,3] [-2,1]=true:=by decide +kernel
theorem Sn:Qf 2 [[1,1],[2,2]] [1,3] [-2,1]:=by
 intro j hj;rcases j with _ | _ | _ | j
 ·decide +kernel
 ·decide +kernel
 ·decide +kernel
 ·omega
theorem ja.slW {w:World} {g:Nat} {t:TypeId} {cs:List Value} (h:ja w g t cs) (n:Nat) (hn:cs.length=n) (hs:n≤140737488355328):jD w (.slice (some ⟨g,0,none⟩) n n) cs:=(h.sl n hn hs).wide
theorem jT.two {w:World} {v v0 v1:Value} {r0 r1:List jl} (h:jD w v [v0,v1]) (h0:jD w v0 (jN r0)) (h1:jD w v1 (jN r1)):jT w v [r0,r1]:=
 ⟨_,h,rfl,fun i r hr=>by
  rcases i with _ | _ | i
  ·cases hr;exact⟨_,rfl,h0⟩
  ·cases hr;exact⟨_,rfl,h1⟩
  ·cases hr⟩
theorem jT.one {w:World} {v v0:Value} {r0:List jl} (h:jD w v [v0]) (h0:jD w v0 (jN r0)):jT w v [r0]:=
 ⟨_,h,rfl,fun i r hr=>by
  rcases i with _ | i
  ·cases hr;exact⟨_,rfl,h0⟩
  ·cases hr⟩
theorem qW.one {w:World} {v v0:Value} {r0:List Int} (h:jD w v [v0]) (h0:jD w v0 (je r0)):qW w v [r0]:=
 ⟨_,h,rfl,fun i r hr=>by
  rcases i with _ | i
  ·cases hr;exact⟨_,rfl,h0⟩
  ·cases hr⟩
theorem zx.two {w:World} {v v0 v1:Value} {r0 r1:List Int} (h:Sl w 1 v [v0,v1]) (h0:Sl w 1 v0 (je r0)) (h1:Sl w 1 v1 (je r1)):zx w v [r0,r1]:=
 ⟨_,h,rfl,fun i r hr=>by
  rcases i with _ | _ | i
  ·cases hr;exact⟨_,rfl,h0⟩
  ·cases hr;exact⟨_,rfl,h1⟩
  ·cases hr⟩
theorem TI.wide {w:World} {base:Nat} {v:Value} {M:List (List Int)} (h:TI w base v M) (hl:M.length≤1000000) (hr:∀r∈M,r.length≤1000000):qW w v M:=by
 obtain⟨vs,h1,h2,h3⟩:=h
 have h1':w.ownsRow base 41 1 v vs.length vs:=by rw[h2];exact h1
 have h4:=x9 h1' (by omega);refine⟨vs,h4,h2,fun i r hi=> ?_⟩;obtain⟨u,bx,hu,_,ho⟩:=h3 i r hi;have:=hr r (Qab hi);exact⟨u,hu,x9 ho (by omega)⟩
theorem Ta (w:World) (hG:jK w):Calls Tryz.prog 16 #[.int .i64 6,.int .i64 (-4)] w fun e w'=>e = .returned (.tuple #[.string ⟨#[45,51,47,50]⟩,.int .i64 0])∧Below w.heap.size w w':=
 (R3 6 (-4) w (by omega) (by omega) hG).mono fun e w' h=>by
  obtain⟨h1,h2⟩:=h;rw[if_neg (by decide)] at h1
  have e1:¬k8 (((6:Int):Rat)/(((-4):Int):Rat)):=by decide +kernel
  have e2:jh (((6:Int):Rat)/(((-4):Int):Rat))=[45,51,47,50]:=by decide +kernel
  rw[JN e1,e2] at h1;exact⟨h1,h2⟩
theorem S4 (w:World):Calls Tryz.prog 17 #[.int .i64 12,.int .i64 (-18)] w fun e w'=>e = .returned (.tuple #[.int .i64 6,.int .i64 0])∧Below w.heap.size w w':=
 (RH 12 (-18) w).mono fun e w' h=>by
  obtain⟨h1,h2⟩:=h;rw[if_neg (by unfold far;omega)] at h1;exact⟨h1,h2⟩
theorem S7 (w:World):Calls Tryz.prog 18 #[.int .i64 3,.int .i64 10] w fun e w'=>e = .returned (.tuple #[.int .i64 7,.int .i64 0])∧Below w.heap.size w w':=
 (RJ 3 10 w).mono fun e w' h=>by
  obtain⟨h1,h2⟩:=h;rw[if_neg (by unfold far;omega),if_pos (by decide)] at h1;obtain⟨x,h3,h4,h5,h6⟩:=h1
  have:x=7:=by omega
  subst this;exact⟨h3,h2⟩
def pA:List Int:=[1,2,0,4,3]
theorem S1 (v:Value) (w:World) (hv:Sl w 1 v (je pA)):Calls Tryz.prog 19 #[v] w fun e w'=>(∃u,e = .returned (.tuple #[u,.int .i64 0])∧qW w' u [[0,1,2],[3,4]])∧Below w.heap.size w w':=
 (RB v pA w hv).mono fun e w' h=>by
  have hp:ki pA=0:=by decide +kernel
  have hc:qY pA=[[0,1,2],[3,4]]:=by decide +kernel
  obtain⟨h1,h2 | h2⟩:=h
  ·obtain⟨_,u,base,rfl,hb,ht⟩:=h2
   rw[hc] at ht;exact⟨⟨u,rfl,ht.wide (by decide) (by decide)⟩,h1⟩
  ·exact absurd hp h2.1
theorem Te (v:Value) (w:World) (hv:Sl w 1 v (je pA)):Calls Tryz.prog 20 #[v] w fun e w'=>e = .returned (.tuple #[.int .i64 (-1),.int .i64 0])∧Below w.heap.size w w':=
 (Sc v pA w hv).mono fun e w' h=>by
  have hp:ki pA=0:=by decide +kernel
  have hc:yO (qY pA) = -1:=by decide +kernel
  obtain⟨h1,h2⟩:=h;rw[if_pos hp,hp,hc] at h1;exact⟨h1,h2⟩
theorem Tb (v:Value) (w:World) (hv:Sl w 1 v (je pA)):Calls Tryz.prog 21 #[v,.int .i64 2] w fun e w'=>(∃u,e = .returned (.tuple #[u,.int .i64 0])∧jD w' u (je [2,0,1,3,4]))∧Below w.heap.size w w':=
 (R5 v pA 2 w hv).mono fun e w' h=>by
  have hp:ki pA=0:=by decide +kernel
  have hc:G4 pA 2=[2,0,1,3,4]:=by decide +kernel
  obtain⟨h1,h2⟩:=h;rw[if_pos hp,hc] at h1;obtain⟨u,h3,h4⟩:=h1;exact⟨⟨u,h3,h4.wide⟩,h2⟩
theorem Tc (v:Value) (w:World) (hv:Sl w 1 v (je [2,0,1])) (hG:jK w):Calls Tryz.prog 22 #[v] w fun e w'=>e = .returned (.tuple #[.string ⟨#[52]⟩,.int .i64 0])∧Below w.heap.size w w':=
 (R6 v [2,0,1] w hv hG (.inl (by decide))).mono fun e w' h=>by
  have hp:ki [2,0,1]=0:=by decide +kernel
  obtain⟨h1,h2⟩:=h;rw[if_pos hp] at h1
  have e1:¬k8 (j9 false (xD [2,0,1] [(2:Int),0,1].length) 1):=by decide +kernel
  have e2:jh (j9 false (xD [2,0,1] [(2:Int),0,1].length) 1)=[52]:=by decide +kernel
  rw[JN e1,e2] at h1;exact⟨h1,h2⟩
theorem Tg (w:World) (hG:jK w):Calls Tryz.prog 23 #[.int .i64 4,.string ⟨#[50,51]⟩] w fun e w'=>(∃u,e = .returned (.tuple #[u,.int .i64 0])∧jD w' u (je [3,2,1,0]))∧Below w.heap.size w w':=
 (Sf 4 [50,51] w (by decide) hG (.inl (by decide)) (.small (by decide +kernel))).mono fun e w' h=>by
  have hp:xT 4 [50,51]=0:=by decide +kernel
  have hc:(kX (xy (j6 [50,51]).2.num.natAbs (4:Int).toNat (4:Int).toNat) (4:Int).toNat).1=[3,2,1,0]:=by decide +kernel
  obtain⟨h1,h2 | h2⟩:=h
  ·obtain⟨_,g,rfl,hg,ho⟩:=h2
   rw[hc] at ho;exact⟨⟨_,rfl,ho.slW 4 rfl (by decide)⟩,h1⟩
  ·exact absurd hp h2.1
theorem YC (M:List (List jl)) (h:M.all (fun r=>r.all fun l=>decide (l.length≤19))=true):∀r∈M,∀l∈r,xd l:=fun r hr l hl=>by
 have:=QaL (List.all_eq_true.1 (List.all_eq_true.1 h r hr) l hl);exact⟨by omega,.inl this⟩
theorem UP (L:List jl) (h:L.all (fun l=>decide (l.length≤19))=true):∀l∈L,xd l:=fun l hl=>by
 have:=QaL (List.all_eq_true.1 h l hl);exact⟨by omega,.inl this⟩
theorem S9 (v:Value) (w:World) (hv:jT w v z6) (hG:jK w):Calls Tryz.prog 9 #[v] w fun e w'=>(∃u,e = .returned (.tuple #[u,.int .i64 0])∧jT w' u [[[49],[45,49,47,50],[48]]])∧Below w.heap.size w w':=
 (YO v z6 w hv (YC _ (by decide)) hG (fun _=>by rw[Xj];exact Bb So)).mono fun e w' h=>by
  obtain⟨h1,h2 | h2⟩:=h
  ·obtain⟨_,h3⟩:=h2
   rw[Xj,show ji z6=3 from rfl,Sp] at h3;rcases h3 with h3 | h3
   ·obtain⟨_,g,B,rfl,hg,hT⟩:=h3
    have hv:=hT.vals
    have e2:([[(1:Rat),-1/2,0]].take [[(1:Rat),-1/2,0]].length).map (·.map jh)=[[[49],[45,49,47,50],[48]]]:=by decide +kernel
    rw[e2] at hv
    rcases B with _ | ⟨⟨b0,r0⟩,_ | ⟨r1,B⟩⟩
    ·simp at hv
    ·have hr0:r0=[[49],[45,49,47,50],[48]]:=by simpa using hv
     subst hr0;have ho:=hT.own;have hr:=(hT.rows (b0,_) (List.mem_singleton.2 rfl)).2.1;exact⟨⟨_,rfl,jT.one (ja.slW (cs:=[_]) ho 1 rfl (by decide)) (hr.slW 3 rfl (by decide))⟩,h1⟩
    ·simp at hv
   ·exact absurd Sq h3.1
  ·exact absurd Sr h2.1
theorem Tf (v u:Value) (w:World) (hv:jT w v z6) (hu:jD w u (jN Xg)) (hG:jK w):Calls Tryz.prog 24 #[v,u] w fun e w'=>(∃u,e = .returned (.tuple #[u,.int .i64 0])∧jD w' u (jN [[49],[48],[49]]))∧Below w.heap.size w w':=
 (Sd v u z6 Xg w hv hu (YC _ (by decide)) (UP _ (by decide)) hG (fun _=>by rw[Xj,Vb];exact O0 Sw)).mono fun e w' h=>by
  obtain⟨h1,h2 | h2⟩:=h
  ·obtain⟨_,_,_,h3⟩:=h2
   rw[Xj,Vb,show ji z6=3 from rfl,Sy] at h3;rcases h3 with h3 | h3
   ·exact absurd h3.1 Sz
   ·rcases h3.2 with ⟨_,g,rfl,hg,ho⟩ | ⟨⟨q,hq,hl⟩,_⟩
    ·have e2:[(1:Rat),0,1].map jh=[[49],[48],[49]]:=by decide +kernel
     rw[e2] at ho;exact⟨⟨_,rfl,ho.slW 3 rfl (by decide)⟩,h1⟩
    ·exfalso
     simp only[QbC,QbJ,or_false] at hq
     have a1:¬k8 1:=by decide +kernel
     have a0:¬k8 0:=by decide +kernel
     rcases hq with rfl | rfl | rfl
     ·exact a1 hl
     ·exact a0 hl
     ·exact a1 hl
  ·exact absurd Ss h2.1
theorem S2 (v:Value) (w:World) (hv:jT w v Qg) (hG:jK w):Calls Tryz.prog 25 #[v] w fun e w'=>e = .returned (.tuple #[.string ⟨#[45,50]⟩,.int .i64 0])∧Below w.heap.size w w':=
 (RC v Qg w hv (YC _ (by decide)) hG (fun _ _=>by rw[Vc];exact NA Sj)).mono fun e w' h=>by
  obtain⟨h1,h2 | h2 | h2⟩:=h
  ·have h3:=h2.2.2
   have e1:¬k8 (-2):=by decide +kernel
   have e2:jh (-2)=[45,50]:=by decide +kernel
   rw[Vc,show ji Qg=2 from rfl,Sk,JN e1,e2] at h3;exact⟨h3,h1⟩
  ·exact absurd rfl h2.2.1
  ·exact absurd St h2.1
theorem Td (v u t:Value) (w:World) (hv:jT w v Xi) (hu:jD w u (jN Xh)) (ht:jD w t (jN Xk)) (hG:jK w):Calls Tryz.prog 29 #[v,u,t] w fun e w'=>e = .returned (.int .i64 0)∧Below w.heap.size w w':=
 (Ry v u t Xi Xh Xk w hv hu ht (YC _ (by decide)) (UP _ (by decide)) (UP _ (by decide)) hG (fun _ _=>by rw[Vd,Ve,Vf];exact Lz Sm)).mono fun e w' h=>by
  obtain⟨h1,h2 | h2 | h2⟩:=h
  ·obtain⟨_,_,h3 | h3⟩:=h2
   ·exact⟨h3.2,h1⟩
   ·refine absurd ?_ h3.1
    rw[Vd,Ve,Vf];exact Sn
  ·exact absurd Sv h2.2.1
  ·exact absurd Su h2.1
noncomputable def WJ (p:Int) (n:Nat) (V:List (List Int)):List (List Int):=nsBasis (jE p) 0 1 n (j4 (jE p) n (V.map List.reverse)) n
theorem Bc {p:Int} {n:Nat} {R:List jS} {V:List (List Int)} (h:R.map (·.2.2)=V):
  nsBasis (jE p) 0 1 n (jy (jE p) n R.length 0 ⟨km List.reverse R R.length,[],[],false⟩) n=WJ p n V:=by
 have hv2:jv (km List.reverse R R.length)=V.map List.reverse:=by rw[Gd];rw[show jv R=V from h]
 have:=J3 (F:=jE p) hv2 n;rw[Qz] at this;exact this.nsBasis 0 1 n n
theorem S8 (v:Value) (w:World) (hv:zx w v [[1,2],[3,4]]):Calls Tryz.prog 26 #[v,.int .i64 2] w fun e w'=>(∃u,e = .returned (.tuple #[u,.int .i64 0])∧qW w' u [[0,1]])∧Below w.heap.size w w':=
 (RQ v [[1,2],[3,4]] 2 w hv).mono fun e w' h=>by
  have a1:kW [[1,2],[3,4]]=0:=by decide +kernel
  have a2:yX 2:=⟨by omega,fun d h1 h2=>by omega⟩
  have a3:WJ 2 2 [[1,0],[1,0]]=[[0,1]]:=by decide +kernel
  have a4:KK 2 [[1,2],[3,4]]=[[1,0],[1,0]]:=by decide +kernel
  obtain⟨h1,h2 | h2 | h2⟩:=h
  ·obtain⟨_,_,_,R,u,B,rfl,hR,hT,hBl,hB⟩:=h2
   rw[a4] at hR;rw[show ((([[1,2],[3,4]]:List (List Int))[0]?.map (·.length)).getD 0)=2 from rfl,Bc hR,a3] at hB;have:=hT.tblW (by omega);rw[hB] at this;exact⟨⟨_,rfl,this⟩,h1⟩
  ·exact absurd ⟨a2,by omega⟩ h2.2.1
  ·exact absurd a1 h2.1
theorem bA {w W:World} (h:Below w.heap.size w W) (o:Obj):Below w.heap.size w (W.alloc o):=h.alloc h.size o
theorem bT {w W W':World} (h:Below w.heap.size w W) (k:Below W.heap.size W W'):Below w.heap.size w W':=h.trans (k.mono h.size)
theorem Vl (L:List Int) (v u:Value) (w:World) (hv:jD w v (je L)) (hu:jD w u (je L)):Calls Tryz.prog 28 #[v,u] w fun e w'=>e = .returned (.bool true)∧Below w.heap.size w w':=
 (Mw v u L L w hv hu).mono fun e w' h=>⟨by rw[h.1];simp,h.2⟩
theorem Vm (L:List (List Int)) (v u:Value) (w:World) (hv:qW w v L) (hu:qW w u L):Calls Tryz.prog 27 #[v,u] w fun e w'=>e = .returned (.bool true)∧Below w.heap.size w w':=
 (LS v u L L w hv hu).mono fun e w' h=>⟨by rw[h.1];simp,h.2⟩
theorem Tk (L:List jl) (v u:Value) (w:World) (hv:jD w v (jN L)) (hu:jD w u (jN L)):Calls Tryz.prog 31 #[v,u] w fun e w'=>e = .returned (.bool true)∧Below w.heap.size w w':=
 (My v u L L w hv hu).mono fun e w' h=>⟨by rw[h.1];simp,h.2⟩
theorem Tj (L:List (List jl)) (v u:Value) (w:World) (hv:jT w v L) (hu:jT w u L):Calls Tryz.prog 30 #[v,u] w fun e w'=>e = .returned (.bool true)∧Below w.heap.size w w':=
 (Mx v u L L w hv hu).mono fun e w' h=>⟨by rw[h.1];simp,h.2⟩
theorem Th (w:World):Calls Tryz.prog 32 #[.string ⟨#[108,111,95,115,104,117]⟩] w fun e w'=>e = .returned (.bool true)∧Below w.heap.size w w':=
 (U2 ⟨#[108,111,95,115,104,117]⟩ w (by decide)).mono fun e w' h=>by
  obtain⟨b,rfl,hb,hB⟩:=h;refine⟨?_,hB⟩;rw[hb.2 ⟨by decide,fun i hi c hc=> ?_⟩];rcases i with _ | _ | _ | _ | _ | _ | i
  ·cases hc;decide
  ·cases hc;decide
  ·cases hc;decide
  ·cases hc;decide
  ·cases hc;decide
  ·cases hc;decide
  ·cases hc
theorem Ti (w:World):Calls Tryz.prog 32 #[.string ⟨#[51,120,51]⟩] w fun e w'=>e = .returned (.bool false)∧Below w.heap.size w w':=
 (U2 ⟨#[51,120,51]⟩ w (by decide)).mono fun e w' h=>by
  obtain⟨b,rfl,hb,hB⟩:=h;refine⟨?_,hB⟩;cases b
  ·rfl
  ·have:=(hb.1 rfl).2 0 (by decide) 51 rfl
   exact absurd this (by decide)
theorem X5 (w:World) (t1 t2:TypeId) (a b:List jl) (n:Nat) (ha:a.length=n) (hb:b.length=n) (hn:n≤100):
  jT (((w.alloc (.cells (jN a).toArray t1)).alloc (.cells (jN b).toArray t1)).alloc (.cells #[.slice (some ⟨w.heap.size,0,none⟩) n n,.slice (some ⟨w.heap.size+1,0,none⟩) n n] t2)) (.slice (some ⟨w.heap.size+1+1,0,none⟩) 2 2) [a,b]:=by
 have h0:=((ja.make w t1 (jN a)).alloc (.cells (jN b).toArray t1)).alloc (.cells #[.slice (some ⟨w.heap.size,0,none⟩) n n,.slice (some ⟨w.heap.size+1,0,none⟩) n n] t2);have h1:=(ja.make (w.alloc (.cells (jN a).toArray t1)) t1 (jN b)).alloc (.cells #[.slice (some ⟨w.heap.size,0,none⟩) n n,.slice (some ⟨w.heap.size+1,0,none⟩) n n] t2);have h2:=ja.make ((w.alloc (.cells (jN a).toArray t1)).alloc (.cells (jN b).toArray t1)) t2 [.slice (some ⟨w.heap.size,0,none⟩) n n,.slice (some ⟨w.heap.size+1,0,none⟩) n n];simp only[World.size_alloc] at h1 h2;exact jT.two (h2.slW 2 rfl (by decide)) (h0.slW n (by rw[kT,ha]) (by omega)) (h1.slW n (by rw[kT,hb]) (by omega))
theorem Bw (w:World) (t1 t2:TypeId) (a:List jl) (n:Nat) (ha:a.length=n) (hn:n≤100):
  jT ((w.alloc (.cells (jN a).toArray t1)).alloc (.cells #[.slice (some ⟨w.heap.size,0,none⟩) n n] t2)) (.slice (some ⟨w.heap.size+1,0,none⟩) 1 1) [a]:=by
 have h0:=(ja.make w t1 (jN a)).alloc (.cells #[.slice (some ⟨w.heap.size,0,none⟩) n n] t2);have h2:=ja.make (w.alloc (.cells (jN a).toArray t1)) t2 [.slice (some ⟨w.heap.size,0,none⟩) n n];simp only[World.size_alloc] at h2;exact jT.one (h2.slW 1 rfl (by decide)) (h0.slW n (by rw[kT,ha]) (by omega))
theorem WM (w:World) (t1 t2:TypeId) (a b:List Int) (n m:Nat) (ha:a.length=n) (hb:b.length=m) (hn:n≤100) (hm:m≤100):
  zx (((w.alloc (.cells (je a).toArray t1)).alloc (.cells (je b).toArray t1)).alloc (.cells #[.slice (some ⟨w.heap.size,0,none⟩) n n,.slice (some ⟨w.heap.size+1,0,none⟩) m m] t2)) (.slice (some ⟨w.heap.size+1+1,0,none⟩) 2 2) [a,b]:=by
 have h0:=((ja.make w t1 (je a)).alloc (.cells (je b).toArray t1)).alloc (.cells #[.slice (some ⟨w.heap.size,0,none⟩) n n,.slice (some ⟨w.heap.size+1,0,none⟩) m m] t2);have h1:=(ja.make (w.alloc (.cells (je a).toArray t1)) t1 (je b)).alloc (.cells #[.slice (some ⟨w.heap.size,0,none⟩) n n,.slice (some ⟨w.heap.size+1,0,none⟩) m m] t2);have h2:=ja.make ((w.alloc (.cells (je a).toArray t1)).alloc (.cells (je b).toArray t1)) t2 [.slice (some ⟨w.heap.size,0,none⟩) n n,.slice (some ⟨w.heap.size+1,0,none⟩) m m];simp only[World.size_alloc] at h1 h2;exact zx.two (h2.sl 2 rfl (by decide)) (h0.sl n (by rw[ku,ha]) (by omega)) (h1.sl m (by rw[ku,hb]) (by omega))
theorem zx.wide {w:World} {v:Value} {M:List (List Int)} (h:zx w v M):qW w v M:=by
 obtain⟨vs,h1,h2,h3⟩:=h;exact⟨vs,h1.wide,h2,fun i r hr=>by obtain⟨u,hu,hs⟩:=h3 i r hr;exact⟨u,hu,hs.wide⟩⟩
theorem Bx (w:World) (t1 t2:TypeId) (a:List Int) (n:Nat) (ha:a.length=n) (hn:n≤100):
  qW ((w.alloc (.cells (je a).toArray t1)).alloc (.cells #[.slice (some ⟨w.heap.size,0,none⟩) n n] t2)) (.slice (some ⟨w.heap.size+1,0,none⟩) 1 1) [a]:=by
 have h0:=(ja.make w t1 (je a)).alloc (.cells #[.slice (some ⟨w.heap.size,0,none⟩) n n] t2);have h2:=ja.make (w.alloc (.cells (je a).toArray t1)) t2 [.slice (some ⟨w.heap.size,0,none⟩) n n];simp only[World.size_alloc] at h2;exact qW.one (h2.slW 1 rfl (by decide)) (h0.slW n (by rw[ku,ha]) (by omega))
theorem X0 (w:World) (t1:TypeId) (a:List Int) (n:Nat) (ha:a.length=n) (hn:n≤100):
  Sl (w.alloc (.cells (je a).toArray t1)) 1 (.slice (some ⟨w.heap.size,0,none⟩) n n) (je a):=(ja.make w t1 (je a)).sl n (by rw[ku,ha]) (by omega)
theorem WN (w:World) (t1:TypeId) (a:List jl) (n:Nat) (ha:a.length=n) (hn:n≤100):
  jD (w.alloc (.cells (jN a).toArray t1)) (.slice (some ⟨w.heap.size,0,none⟩) n n) (jN a):=(ja.make w t1 (jN a)).slW n (by rw[kT,ha]) (by omega)
theorem jT.more {w:World} {v:Value} {M:List (List jl)} (h:jT w v M) (o:Obj):jT (w.alloc o) v M:=h.below ((Below.refl _ _).alloc (Nat.le_refl _) _)
theorem jD.more {w:World} {v:Value} {xs:List Value} (h:jD w v xs) (o:Obj):jD (w.alloc o) v xs:=h.below ((Below.refl _ _).alloc (Nat.le_refl _) _)
theorem ZF (w:World) (g:Nat) (hg:w.heap.size=g) (t1:TypeId) (a:List jl) (n:Nat) (ha:a.length=n) (hn:n≤100):
  jD (w.alloc (.cells (jN a).toArray t1)) (.slice (some ⟨g,0,none⟩) n n) (jN a):=by subst hg;exact WN w t1 a n ha hn
theorem Ef (w:World) (a b c:Obj):(((w.alloc a).alloc b).alloc c).heap.size=w.heap.size+1+1+1:=by simp
theorem OO (w:World) (a b c d:Obj):((((w.alloc a).alloc b).alloc c).alloc d).heap.size=w.heap.size+1+1+1+1:=by simp
theorem qW.more {w:World} {v:Value} {M:List (List Int)} (h:qW w v M) (o:Obj):qW (w.alloc o) v M:=h.below ((Below.refl _ _).alloc (Nat.le_refl _) _)
theorem Dj {V:List (List Rat)} {R:List js} {n:Nat} {S:jw Rat} (hR:R.map (·.2.2)=V) (hS:S=jy jc n R.length 0 ⟨R,[],[],false⟩):
  (S.rows.take S.cols.length).map (·.2.2)=xZ n V∧S.cols=(j4 jc n V).cols:=by
 have h:=J3 (F:=jc) (R:=R) (M:=V) hR n;rw[←hS] at h;refine⟨?_,h.cols⟩;unfold xZ;have hr:=h.rows;unfold jv at hr;rw[h.cols,List.map_take,List.map_take,hr]
theorem XR {V:List (List Rat)} {R:List js} {n:Nat} (hR:R.map (·.2.2)=V) (hr:∀r∈V,r.length=n):qH (fun _=>True) R.length n R:=by
 refine⟨rfl,fun i hi=> ?_⟩;have e:=Qaa hi;rw[qF e]
 have hm:(R[i]).2.2∈V:=by rw[←hR];exact Qa1 (Qay hi)
 exact⟨hr _ hm,fun _ _=>trivial⟩
theorem Uw {V:List (List Rat)} {R:List js} (h:R.map (·.2.2)=V) (i:Nat):jL R i=(V[i]?).getD []:=by
 unfold jL;rw[←h,Qao]
theorem Bf {V:List (List Rat)} {R:List js} {n:Nat} {S:jw Rat} (hr:∀r∈V,r.length=n) (h1:R.map (·.2.2)=V) (hS:S=jy jc n R.length 0 ⟨R,[],[],false⟩) {Ro:List js} (h3:Ro.map (·.2.2)=kB n S n):
  ((jy jc (ji (kB n S n)) Ro.length 0 ⟨Ro,[],[],false⟩).rows.take (jy jc (ji (kB n S n)) Ro.length 0 ⟨Ro,[],[],false⟩).cols.length).map (·.2.2)=ze n V:=by
 have hl:V.length=R.length:=by rw[←h1];simp
 have hG:=XR h1 hr;have hGo:=XR h3 Qx
 obtain⟨fa,hfa⟩:∃fa,fa=(List.range n).filter (fun c=> !S.cols.contains c):=⟨_,rfl⟩
 have hke:kB n S n=fa.map (JE n S):=by rw[hfa];rfl
 have hlo:Ro.length=fa.length:=by
  have:=congrArg List.length h3
  rwa [Qar,hke,Qar] at this
 obtain⟨G1,-,-,-,-,-,-,-,-,dqm⟩:=J2 QP hG;have hSe:S=jU jc n R.length R:=hS
 have hw:jy jc (ji (kB n S n)) Ro.length 0 ⟨Ro,[],[],false⟩=jU jc n fa.length Ro:=by
  rw[←hlo]
  cases hc:Ro with
  | nil=>rfl
  | cons a t=>
   have:ji (kB n S n)=n:=by
    have hpos:0<(kB n S n).length:=by rw[hke,Qar,←hlo,hc];simp
    unfold ji;rw[Qaa hpos];exact Qx _ (Qay hpos)
   rw[this];rfl
 have hkl:ze n V=nsBasis jc 0 1 n (jU jc n R.length (qX (V.map List.reverse))) n:=by
  unfold ze j4 jU;rw[Qar,hl]
 have hbr:(qX (V.map List.reverse)).map (·.2.2)=V.map List.reverse:=Xl _
 have hGr:qH (fun _=>True) R.length n (qX (V.map List.reverse)):=by
  have:=XR (n:=n) hbr (fun r hr'=>by
   obtain⟨q,hq,rfl⟩:=List.mem_map.1 hr'
   rw[QbD];exact hr q hq)
  have e:(qX (V.map List.reverse)).length=R.length:=by unfold qX;rw[Qar,Qar,hl]
  rwa [e] at this
 rw[hw,hkl];refine CA QP (fun a b _ _ e=>e) trivial rfl trivial rfl hG (fun f=> ?_) ?_ (hlo ▸ hGo) (fun i hi x hx=> ?_) hGr (fun i hi x hx=> ?_)
 ·rw[hfa,←hSe];simp
 ·rw[hfa]
  exact(List.nodup_range.filter _)
 ·have hil:i<(kB n S n).length:=by rw[hke,Qar];exact hi
  have e2:(kB n S n)[i]? =some (JE n S (fa[i]?.getD 0)):=by
   rw[hke,Qao,Qaa hi];rfl
  have e3:jC jc Ro i x=(JE n S (fa[i]?.getD 0))[x]?.getD 0:=by
   unfold jC;rw[Uw h3 i,e2];rfl
  rw[e3,←hSe]
  have hG2:qH (fun _=>True) R.length n S.rows:=by rw[hSe];exact G1
  have hq:S.cols.length≤R.length:=by rw[hSe];exact dqm
  exact Z6 QP hG2 trivial rfl rfl (fa[i]?.getD 0) S.cols.length hq (Nat.le_refl _) x hx
 ·show jC jc _ i x=jC jc R i (n-1-x)
  have e1:jL (qX (V.map List.reverse)) i=(jL R i).reverse:=by
   rw[Uw hbr i,Uw h1 i,Qao,Qaa (by omega:i<V.length)];rfl
  have e3:=(hG.2 i hi).1;unfold jC;rw[e1,List.getElem?_reverse (by rw[e3];exact hx),e3]
def xG (Ls:List (List Rat)):List (List jl):=Ls.map (·.map jh)
theorem yk.txt {w:World} {v:Value} {Ls:List (List Rat)} (h:yk w v Ls):jT w v (xG Ls):=by
 obtain⟨vs,h1,h2,h3⟩:=h;refine⟨vs,h1,by unfold xG;rw[Qar];exact h2,fun i r hr=> ?_⟩;unfold xG at hr;rw[Qao] at hr
 cases hl:Ls[i]? with
 | none=>rw[hl] at hr;cases hr
 | some L=>
  rw[hl] at hr;obtain rfl:=QaE hr;obtain⟨u,hu,hs⟩:=h3 i L hl
  exact⟨u,hu,by
   have e:jN (L.map jh)=kF L:=by unfold jN kF;rw[Qcs];rfl
   rw[e];exact hs⟩
theorem yl.tbl {w w':World} {g:Nat} {Ls:List (List Rat)} {B:List (Nat×List jl)} (h:yl w w' g Ls.length Ls Ls.length B) (h1:Ls.length≤1000000):jT w' (.slice (some ⟨g,0,none⟩) Ls.length Ls.length) (xG Ls):=by
 have hB:=h.len (Nat.le_refl _);have hv:=h.vals;rw[Qad (Nat.le_refl _)] at hv;have ho:=h.own;rw[QbE,List.replicate_zero,Qbg] at ho;refine⟨_,ho.slW Ls.length (by rw[Qar];exact hB) (by omega),by unfold xG;rw[Qar,Qar];exact hB,fun i r hr=> ?_⟩;unfold xG at hr;rw[←hv,Qao] at hr
 cases hb:B[i]? with
 | none=>rw[hb] at hr;cases hr
 | some x=>
  rw[hb] at hr;obtain rfl:=QaE hr;obtain⟨_,h3,h4⟩:=h.rows x (Qab hb);exact⟨.slice (some ⟨x.1,0,none⟩) x.2.length x.2.length,by rw[Qao,hb];rfl,h3.slW _ (kT _) (by omega)⟩
def Qd (w:World) (Ls:List (List Rat)) (v:Value) (e:Int):Prop:=(xV Ls∧e=0∧jT w v (xG Ls))∨(¬xV Ls∧e=4∧v=jn)
def ZN (Ls:List (List Rat)) (w:World) (e:Ending) (w':World):Prop:=Below w.heap.size w w' ∧ ∃A n c k,e = .returned (.tuple #[.slice A n c,.int .i64 k])∧Qd w' Ls (.slice A n c) k
theorem Gg {Ls:List (List Rat)} {w w':World} {e:Ending} (hB:Below w.heap.size w w') (h:ZP Ls w e w') (hl:Ls.length≤1000000):ZN Ls w e w':=by
 rcases h with ⟨h1,g,B,rfl,_,h2⟩ | ⟨h1,rfl⟩
 ·exact⟨hB,_,_,_,_,rfl,.inl ⟨h1,rfl,h2.tbl hl⟩⟩
 ·exact⟨hB,none,0,0,4,rfl,.inr ⟨h1,rfl,rfl⟩⟩
def yr:List (List jl)→Int
 | []=>0
 | r::t=>if qQ r=0 then yr t else 4
theorem WP {M:List (List jl)} {k:Nat} {r:List jl} (h:M[k]? =some r):yr (M.drop k)=if qQ r=0 then yr (M.drop (k+1)) else 4:=by
 obtain⟨hk,rfl⟩:=List.getElem?_eq_some_iff.1 h;rw[QaF hk];rfl
theorem WS (L:List jl):qQ L=0∨qQ L=4:=by
 induction L with
 | nil=>exact .inl rfl
 | cons a t ih=>
  unfold qQ;split
  ·exact ih
  ·exact .inr rfl
theorem Ew (q:Rat):xF (jh q)=0 ↔ ¬k8 q:=by
 rw[Bk,decDigits_length,decDigits_length];unfold k8;split
 ·rename_i h;exact⟨fun h=>absurd h (by decide),fun h2=>absurd h h2⟩
 ·rename_i h;exact⟨fun _=>h,fun _=>rfl⟩
theorem WT (L:List Rat):qQ (L.map jh)=0 ↔ ∀q∈L,¬k8 q:=by
 induction L with
 | nil=>exact⟨fun _ _ h=>(by cases h),fun _=>rfl⟩
 | cons a t ih=>
  show (if xF (jh a)=0 then qQ (t.map jh) else 4)=0↔_
  by_cases h:xF (jh a)=0
  ·rw[if_pos h,ih]
   have:=(Ew a).1 h
   exact⟨fun k q hq=>(by
    rcases List.mem_cons.1 hq with rfl | hq
    ·exact this
    ·exact k q hq),fun k q hq=>k q (QbU _ hq)⟩
  ·rw[if_neg h]
   exact⟨fun k=>absurd k (by decide),fun k=>absurd ((Ew a).2 (k a (by simp))) h⟩
theorem WQ (Ls:List (List Rat)):(xV Ls→yr (xG Ls)=0)∧(¬xV Ls→yr (xG Ls)=4):=by
 induction Ls with
 | nil=>exact⟨fun _=>rfl,fun h=>absurd (by intro _ h;cases h) h⟩
 | cons L t ih=>
  have e:yr (xG (L::t))=if qQ (L.map jh)=0 then yr (xG t) else 4:=rfl
  rw[e];by_cases h:qQ (L.map jh)=0
  ·rw[if_pos h]
   have hL:=(WT L).1 h
   exact⟨fun k=>ih.1 (fun z hz=>k z (QbU _ hz)),fun k=>ih.2 (fun k2=>k (fun z hz=>(by
    rcases List.mem_cons.1 hz with rfl | hz
    ·exact hL
    ·exact k2 z hz)))⟩
  ·rw[if_neg h]
   exact⟨fun k=>absurd ((WT L).2 (k L (by simp))) h,fun _=>rfl⟩
theorem BL (bad:Int) (w:World) (hb:bad≠0):
  Calls Tryz.prog 11 #[jn,.int .i64 bad,.int .i64 bad,jn] w fun e w'=>e = .returned (.bool true)∧w=w':=by
 have h1:(bad==0)=false:=by simpa using hb
 have h2:(bad != 0)=true:=by simpa using hb
 have h3:(bad==bad)=true:=by simp
 clear hb;go_enter Tryz.func11,Tryz.ntmps11
 go_wp2_with fail
 go_loopg [2,9] 0 (fun g b i wr=>b = .int .i64 bad∧i = .int .i64 0∧w=wr)
 case atStart=>exact⟨rfl,rfl,rfl⟩
 case round=>
  obtain⟨rfl,rfl,rfl⟩:=hrel
  go_wp2
  go_ret;exact⟨rfl,rfl⟩
theorem BO (v u:Value) (W:List (List jl)) (w:World) (hv:jT w v W) (hu:jT w u W) (hb:∀r∈W,∀l∈r,l.length≤4000000000000000000) (hL:yr W=0):
  Calls Tryz.prog 11 #[v,.int .i64 0,.int .i64 0,u] w fun e w'=>e = .returned (.bool true)∧Below w.heap.size w w':=by
 have SM:=hid (fun W' (hw:Below w.heap.size w W')=>Mx v u W W W' (hv.below hw) (hu.below hw));rw[QaK rfl] at SM;obtain⟨A,c,rfl,_,_⟩:=hv.form;obtain⟨us,hus,hul,hur⟩:=hu;obtain⟨A2,c2,rfl,hc1,hc2⟩:=hus.form;rw[hul] at hus hc1 hc2 SM ⊢;have HUR:=hid hur;have HBL:=hid hb;have HL:=hid hL;clear hv hur hb hL;go_enter Tryz.func11,Tryz.ntmps11
 go_wp2_with fail
 go_loopg [2,9] W.length (fun g b i wr=>∃k:Nat,k+g=W.length∧b = .int .i64 0∧i = .int .i64 k∧Hid (yr (W.drop k)=0)∧Below w.heap.size w wr)
 case atStart=>exact⟨0,by omega,rfl,rfl,hid (by rw[Qa0];exact HL.out),Below.refl _ _⟩
 case round=>
  obtain⟨k,hk,rfl,rfl,hD,hB⟩:=hrel
  cases gk with
  | zero=>
   have hin:¬((k:Int)<(W.length:Int)):=by omega
   have hin2:decide ((k:Int)<(W.length:Int))=false:=by simpa using hin
   have SM2:=hid (SM.out _ hB);clear hk hD SM
   go_wp2_with fail
   refine SM2.out.mono ?_;rintro e w2 ⟨rfl,hB2⟩;have HB2:=hid (hB.trans (hB2.mono hB.size));clear SM2 hB2
   go_wp2
   go_ret;exact⟨rfl,HB2.out⟩
  | succ g=>
   have hlt:k<W.length:=by omega
   have hin:(k:Int)<(W.length:Int):=by omega
   have hin2:decide ((k:Int)<(W.length:Int))=true:=by simpa using hin
   have hx:W[k]? =some W[k]:=Qaa hlt;obtain⟨u1,hu1,hs1⟩:=HUR.out k _ hx;obtain⟨b1,off1,rfl,hbb1,hcell1⟩:=hus.at_ (k:=k) (by rw[hul];omega);have hck:=(hB.cell (p:=⟨b1,off1+k,none⟩) hbb1).trans ((hcell1 k (by rw[hul];omega)).trans hu1);have LR:=hid (Mt u1 W[k] wr (hs1.below hB) (HBL.out _ (Qab hx)));have hd:=WP hx
   have hz:qQ W[k]=0:=by
    rcases WS W[k] with h | h
    ·exact h
    ·have:=hD.out
     rw[hd,h,if_neg (by decide)] at this;exact absurd this (by decide)
   have HS:Hid (yr (W.drop (k+1))=0):=hid (by rw[←hD.out,hd,if_pos hz]);rw[hz] at LR;have Hk:=hid hk;obtain⟨A1,c1,rfl,_,_⟩:=hs1.form;clear hx hcell1 hk hD hd hz hu1 hs1
   go_wp2_with fail
   refine LR.out.mono ?_;rintro e w2 ⟨rfl,hB2⟩;have HB2:=hid (hB.trans (hB2.mono hB.size));clear LR hB2
   go_wp2
   go_roundg g
   case rel=>exact⟨k+1,by have:=Hk.out;omega,rfl,by go_num,HS,HB2.out⟩
   case measure=>omega
theorem BM (u:Value) (W:List (List jl)) (w:World) (hu:jT w u W) (hb:∀r∈W,∀l∈r,l.length≤4000000000000000000) (hL:yr W=4):
  Calls Tryz.prog 11 #[jn,.int .i64 4,.int .i64 0,u] w fun e w'=>e = .returned (.bool true)∧Below w.heap.size w w':=by
 obtain⟨us,hus,hul,hur⟩:=hu;obtain⟨A2,c2,rfl,hc1,hc2⟩:=hus.form;rw[hul] at hus hc1 hc2 ⊢;have HUR:=hid hur;have HBL:=hid hb;have HL:=hid hL;clear hur hb hL;go_enter Tryz.func11,Tryz.ntmps11
 go_wp2_with fail
 go_loopg [2,9] W.length (fun g b i wr=>∃(k:Nat) (bb:Int),k+g=W.length∧b = .int .i64 bb∧i = .int .i64 k∧((bb=0∧Hid (yr (W.drop k)=4))∨bb=4)∧Below w.heap.size w wr)
 case atStart=>exact⟨0,0,by omega,rfl,rfl,.inl ⟨rfl,hid (by rw[Qa0];exact HL.out)⟩,Below.refl _ _⟩
 case round=>
  obtain⟨k,bb,hk,rfl,rfl,hD,hB⟩:=hrel;rcases hD with ⟨rfl,hD⟩ | rfl
  ·cases gk with
   | zero=>
    exfalso;have:=hD.out;rw[Qa4 (by omega)] at this;exact absurd this (by decide)
   | succ g=>
    have hlt:k<W.length:=by omega
    have hin:(k:Int)<(W.length:Int):=by omega
    have hin2:decide ((k:Int)<(W.length:Int))=true:=by simpa using hin
    have hx:W[k]? =some W[k]:=Qaa hlt;obtain⟨u1,hu1,hs1⟩:=HUR.out k _ hx;obtain⟨b1,off1,rfl,hbb1,hcell1⟩:=hus.at_ (k:=k) (by rw[hul];omega);have hck:=(hB.cell (p:=⟨b1,off1+k,none⟩) hbb1).trans ((hcell1 k (by rw[hul];omega)).trans hu1);have LR:=hid (Mt u1 W[k] wr (hs1.below hB) (HBL.out _ (Qab hx)));have hd:=WP hx
    have HS:Hid ((qQ W[k]=0∧Hid (yr (W.drop (k+1))=4))∨qQ W[k]=4):=hid (by
     rcases WS W[k] with h | h
     ·exact .inl ⟨h,hid (by rw[←hD.out,hd,if_pos h])⟩
     ·exact .inr h)
    have Hk:=hid hk;obtain⟨A1,c1,rfl,_,_⟩:=hs1.form;clear hx hcell1 hk hD hd hu1 hs1;generalize qQ W[k]=x at *
    go_wp2_with fail
    refine LR.out.mono ?_;rintro e w2 ⟨rfl,hB2⟩;have HB2:=hid (hB.trans (hB2.mono hB.size));clear LR hB2
    go_wp2
    go_roundg g
    case rel=>exact⟨k+1,x,by have:=Hk.out;omega,rfl,by go_num,HS.out,HB2.out⟩
    case measure=>omega
  ·by_cases hin:(k:Int)<(W.length:Int)
   ·have hin2:decide ((k:Int)<(W.length:Int))=true:=by simpa using hin
    clear hk
    go_wp2
    go_ret;exact⟨rfl,hB⟩
   ·have hin2:decide ((k:Int)<(W.length:Int))=false:=by simpa using hin
    clear hk
    go_wp2
    go_ret;exact⟨rfl,hB⟩
theorem Gi {v u:Value} {k:Int} {Ls:List (List Rat)} {w:World} (hv:Qd w Ls v k) (hu:jT w u (xG Ls)) (hb:∀r∈Ls,∀x∈r,zp x):
  Calls Tryz.prog 11 #[v,.int .i64 k,.int .i64 0,u] w fun e w'=>e = .returned (.bool true)∧Below w.heap.size w w':=by
 have hl:∀r∈xG Ls,∀l∈r,l.length≤4000000000000000000:=by
  intro r hr l hl;obtain⟨L,hL,rfl⟩:=List.mem_map.1 hr;obtain⟨x,hx,rfl⟩:=List.mem_map.1 hl;exact Uz x (hb L hL x hx)
 rcases hv with ⟨h1,rfl,h2⟩ | ⟨h1,rfl,rfl⟩
 ·exact BO v u _ w h2 hu hl ((WQ Ls).1 h1)
 ·exact BM u _ w hu hl ((WQ Ls).2 h1)
