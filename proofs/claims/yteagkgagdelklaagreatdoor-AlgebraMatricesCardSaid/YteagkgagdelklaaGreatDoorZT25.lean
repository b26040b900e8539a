/- Contract of the reference: clone (a copy of a matrix of numbers). -/
import Derived.Test.YteagkgagdelklaaGreatDoorZT24
set_option maxRecDepth 100000
set_option maxHeartbeats 8000000
namespace Go.Proofs.YteagkgagdelklaaGreatDoor
open Go.RowKit Go.Lib
theorem Wx:(Tryz.prog.info? 50).map (fun i=>(i.zero,i.size,i.bytes))=some (some (.slice none 0 0),1,24):=by kernel_rfl
theorem FE (L:List Rat):∀u∈kF L,u.oneCell'=true:=by
 intro u hu;obtain⟨x,_,rfl⟩:=List.mem_map.1 hu;rfl
theorem Af (w:World) (row:Option Nat):w.grownBy w row:=⟨rfl,rfl,rfl,Nat.le_refl _,fun _ _ _=>rfl⟩
theorem SX {ops:Array Oper} {rest:List Oper} {o:Oper} {a:Act} {Q:Exit→Act→World→Prop} {w:World} (hgd:o.guard=none) (s x:Operand)
  (ho:o.op = .call { callee:= .builtin .append,args:= #[s,x],argTypes:= #[50,50] })
  (g base:Nat) (hs:a.eval s = .slice (some ⟨g,0,none⟩) 0 0) (hown:w.ownsRow base 37 1 (.slice (some ⟨g,0,none⟩) 0 0) 0 []) (u:Value) (r:List Rat) (hx:a.eval x=u) (hu:jD w u (kF r)) (hl:r.length≤1000) (hbase:base≤w.heap.size)
  (h:∀v' w',w'.ownsRow base 37 1 v' r.length (kF r)→w.grownBy w' (some g)→wpList Tryz.prog ops Q rest (a.put o.dst v') w'):wpList Tryz.prog ops Q (o::rest) a w:=by
 obtain⟨i0,hi,hz0,hz1,hz2⟩:=info_parts ZA;obtain⟨A,c,rfl,h1,h2,h3⟩:=hu;rw[Jg] at *;rcases QaA r.length with hr | hr
 ·have hr':r=[]:=List.length_eq_zero_iff.1 hr
  subst hr'
  refine wpList_plain hgd fun K hK=> ?_
  have hsrc:Src Tryz.prog i0.size 50 (.slice A 0 c) 0 [] w:=by
   cases A with
   | none=>exact Src.ofNil w Tryz.underlying50 c
   | some ad=>exact Src.ofSlice w Tryz.underlying50 ad 0 c [] (by simp) (fun j u h=>by simp at h) (fun u h=>by cases h)
  have hrun:=run_append_nothing w 50 50 o.type 37 i0 Tryz.underlying50 hi (some ⟨g,0,none⟩) 0 0 (Nat.le_refl _) _ hsrc;have hx':a.eval x = .slice A 0 c:=hx;unfold Oper.wp;simp[execOp,ho,resolve,invoke,builtin,hs,hx',hrun,Result.andThen];exact hK _ _ (h _ _ hown (Af _ _))
 ·obtain⟨b,off,rfl,hb,hc⟩:=h3 hr
  refine wpList_append_own w hgd s x 50 ho base 37 i0 (.string ⟨#[]⟩) 1 16 Tryz.underlying50 hi hz0 hz1 hz2 rfl (by decide) _ 0 [] hs hown ⟨b,off,none⟩ r.length c (kF r) hx (by rw[Jg,Qbr]) (fun j u hj=> ?_) (FE r) (by unfold maxLen;omega) (by omega) hbase (fun v' w' h4 h5 _=> ?_)
  ·have hj':=(List.getElem?_eq_some_iff.1 hj).1
   rw[Jg] at hj';have e:(Addr.add ⟨b,off,none⟩ j)=⟨b,off+j,none⟩:=Addr.add_lit ..;rw[e];exact(hc j hj').trans hj
  ·rw[Qbi,Qbe] at h4
   exact h v' w' h4 h5
theorem LH (v:Value) (M:List (List Rat)) (n:Nat) (w:World) (hv:yk w v M) (hm:M.length≤256) (hn:n≤256) (hr:∀r∈M,r.length=n):
  Calls Tryz.prog 90 #[v] w fun e w'=>∃u us,e = .returned u∧qz w' w.heap.size n u us M∧Below w.heap.size w w':=by
 obtain⟨vs,hvs,hvl,hvr⟩:=hv;obtain⟨A,c,rfl,hc1,hc2⟩:=hvs.form;rw[hvl] at hvs hc1;rw[hvl];have HVR:=hid hvr;have HR:=hid hr;have HVS:=hid hvs;obtain⟨s0,hs0,hsz0,hsz1,hsz2⟩:=info_parts Wx;clear hvr hr hvs;go_enter Tryz.func90,Tryz.ntmps90
 go_wp2_with fail
 go_loopg [3,4] M.length (fun gh rv i wr=>∃(k:Nat) (us:List Value),i = .int .i64 k∧k+gh=M.length∧Hid (qz wr w.heap.size n rv us (M.take k))∧Hid (Below w.heap.size w wr))
 case atStart=>exact⟨0,[],rfl,by omega,hid (by rw[QbL];exact qz.nil _ _ _),hid (Below.refl _ _)⟩
 case round=>
  obtain⟨k,us,rfl,hk,hT,hW⟩:=hrel
  cases gk with
  | zero=>
   have hin:¬((k:Int)<(M.length:Int)):=by omega
   have HT:Hid (∃us,qz wr w.heap.size n u3 us M):=hid ⟨us,by have:=hT.out;rw[Qad (by omega)] at this;exact this⟩;clear hT hk
   go_wp2
   go_ret;obtain⟨us,h⟩:=HT.out;exact⟨_,rfl,⟨us,h⟩,hW.out⟩
  | succ gh=>
   have hkM:k<M.length:=by omega
   have hin:((k:Int)<(M.length:Int)):=by omega
   have Hk:=hid hk;obtain⟨ru,hru,hsl⟩:=HVR.out k _ (Qaa hkM);have hrl:=HR.out _ (Qay hkM);have Htk:Hid (M.take (k+1)=M.take k++[M[k]]):=hid (by rw[Qa5,Qaa hkM];rfl);have HTl:Hid ((M.take k).length=k):=hid (by rw[Qak];omega);generalize M[k]=r at *;obtain⟨b,off,rfl,hb,hcell⟩:=HVS.out.at_ (k:=k) (by rw[hvl];exact hkM);have hck:=(hW.out.cell (p:=⟨b,off+k,none⟩) hb).trans ((hcell k (by rw[hvl];exact hkM)).trans hru);have hbl:=Qac hb hW.out.size;have hsl2:=hsl.below hW.out;have hvl2:=hT.out.vlen;rw[HTl.out] at hvl2;obtain⟨Ar,cr,rfl,hr1,hr2⟩:=hsl2.form;rw[Jg,hrl] at hr1 hr2 hsl2;have hws:=hW.out.size;have HU:=hid hsl2;have Hrl:=hid hrl;have HRU:=hid hru;rw[Jg,hrl] at hck;clear hk hcell hsl hru hrl hsl2 hb
   go_wp2_with (at_builtin;(first
    | (refine SX rfl _ _ rfl wr.heap.size wr.heap.size rfl (World.ownsRow_lit (e:=37) (size:=1) (base:=wr.heap.size) wr #[] 0 (Nat.le_refl _) (by unfold maxLen;omega) rfl) _ r rfl (HU.out.below ((Below.refl _ _).alloc (Nat.le_refl _) _)) (by rw[Hrl.out];omega) (by simp) ?_;intro v2 w2 hown2 hgrow2;rw[Hrl.out] at hown2;obtain⟨A2,c2,rfl,hc21,hc22⟩:=jX hown2;have HB2:Hid (Below wr.heap.size wr w2):=hid (Below.grown ((Below.refl _ wr).alloc (Nat.le_refl _) _) hgrow2 (by simp) (fun j hj=>by injection hj with hj;omega));have HT3:=hid ((hT.out.below HB2.out).below ((Below.refl _ w2).alloc (Nat.le_refl _) (.cells #[.slice A2 n c2] 50)));have hsz2':=HB2.out.size;have HO3:=hid HT3.out.own;rw[HTl.out] at HO3)
    | (refine wpList_append_own _ rfl _ _ 22 rfl w.heap.size 50 s0 (.slice none 0 0) 1 24 Tryz.underlying22 hs0 hsz0 hsz1 hsz2 rfl (by decide) _ _ _ rfl HO3.out ⟨w2.heap.size,0,none⟩ 1 1 [.slice A2 n c2] rfl rfl (cell_one_new _ _ _) (fun x hx=>by simp at hx;subst hx;rfl) (by unfold maxLen;omega) (by omega) (by simp;omega) ?_;intro v4 w4 hown4 hgrow4 _)))
   have HT4:=hid (HT3.out.snoc hgrow4 (by rw[HTl.out];exact hown4) (kD hown2 ((Below.refl _ w2).alloc (Nat.le_refl _) _)) hT.out hws)
   have HB4:Hid (Below w.heap.size w w4):=hid (by
    have h1:=hW.out.trans (HB2.out.mono hws)
    exact Below.grown (h1.alloc h1.size _) hgrow4 (by simp;omega) (fun j hj=>(HO3.out.lt _ hj).1))
   clear hown2 hgrow2 hown4 hgrow4 HT3 HO3 hT hck
   go_wp2
   go_roundg gh
   case rel=>exact⟨k+1,us++[.slice A2 n c2],by go_num,by have:=Hk.out;omega,hid (by rw[Htk.out];exact HT4.out),HB4⟩
   case measure=>omega
theorem Rz (p:List Int) (A:Option Addr) (c Bp b0 off:Nat) (w:World) (hp:y4 p) (hl:p.length≤256) (hbox:ja w Bp 41 [.slice A p.length c]) (hR:yB p A b0 off w):
  Calls Tryz.prog 55 #[.func (.func 101) #[] #[.pointer (some ⟨Bp,0,none⟩)]] w (Ey (qY p) w):=by
 have AS:=hid (Rv p A c Bp b0 off w hp hl hbox hR);clear hp hbox hR;go_enter Tryz.func55,Tryz.ntmps55
 go_wp2_with fail
 refine AS.out.mono ?_;rintro e w1 ⟨v,base,rfl,hb,hT,hB⟩;obtain⟨A5,c5,rfl,_,_⟩:=hT.form;have HT:=hid hT;have HB:=hid hB;clear hT hB AS
 go_wp2
 go_ret;exact⟨_,base,rfl,hb,HT.out,HB.out⟩
def Nn (p:List Int) (w:World) (e:Ending) (w':World):Prop:=
 Below w.heap.size w w'∧((ki p=0 ∧ ∃v base,e = .returned (.tuple #[v,.int .i64 0])∧w.heap.size≤base∧TI w' base v (qY p))∨(ki p≠0∧e = .returned (.tuple #[jn,.int .i64 (ki p)])))
theorem RB (v:Value) (p:List Int) (w:World) (hv:Sl w 1 v (je p)):Calls Tryz.prog 19 #[v] w (Nn p w):=by
 obtain⟨A,c,rfl,hc1,hc2⟩:=hv.form;simp only[ku] at hc1 hv ⊢;have CP:=hid (fun W h=>Q9 (.slice A p.length c) p W h);by_cases he:ki p=0
 ·have hPp:y4 p∧p.length≤256:=by unfold ki at he;split at he;omega;split at he;exact⟨by assumption,by omega⟩;omega
  have HV:=hid hv;have He:=hid he;have HPp:=hid hPp;clear hv he hPp;go_enter Tryz.func19,Tryz.ntmps19
  go_wp2_with fail
  refine(CP.out _ HV.out).mono ?_;rintro e w1 ⟨rfl,hB1⟩;rw[He.out];have hsl:=HV.out.below hB1;have HB1:=hid hB1;have hal:Below w1.heap.size w1 (w1.alloc (.cells #[.slice A p.length c] 41)):=(Below.refl _ w1).alloc (Nat.le_refl _) _;have hOb:=ja.make w1 41 [.slice A p.length c];obtain⟨b0,off,hRd,_⟩:=yB.ofSl (Bp:=w1.heap.size) (hsl.below hal) (by simp);have CL:=hid (Rz p A c w1.heap.size b0 off (w1.alloc (.cells #[.slice A p.length c] 41)) HPp.out.1 HPp.out.2 hOb hRd);have HB2:=hid (hB1.trans (hal.mono hB1.size));clear hsl hal hOb hRd hB1 HV CP
  go_wp2_with fail
  refine(Y8 _ _ _ _).mono ?_;rintro e w2 ⟨rfl,rfl⟩
  go_wp2_with fail
  refine CL.out.mono ?_;rintro e w3 ⟨u,base,rfl,hb,hT,hB⟩;obtain⟨A5,c5,rfl,_,_⟩:=hT.form;have HT:=hid hT;have HB3:=hid (HB2.out.trans (hB.mono HB2.out.size));have hbw:w.heap.size≤base:=Qap HB2.out.size hb;clear hT hB CL
  go_wp2
  go_ret2;exact⟨HB3.out,.inl ⟨He.out,_,base,rfl,hbw,HT.out⟩⟩
 ·have hne:(ki p != 0)=true:=by simpa using he
  have He:=hid he;have HV:=hid hv;clear he hv;go_enter Tryz.func19,Tryz.ntmps19
  go_wp2_with fail
  refine(CP.out _ HV.out).mono ?_;rintro e w1 ⟨rfl,hB1⟩;have HB1:=hid hB1;clear hB1 CP;generalize hec:ki p=ec at *;have HEC:=hid hec;clear hec
  go_wp2
  go_ret2;exact⟨HB1.out,.inr ⟨by rw[HEC.out];exact He.out,by rw[HEC.out];rfl⟩⟩
def zH (x:Int):List UInt8:=(if x<0 then [45] else [])++decDigits x.natAbs
theorem yG (ws:List Nat) (k:Nat) (hk:k<ws.length):jb (ws.drop k)=ws[k]?.getD 0+B9*jb (ws.drop (k+1)):=by
 rw[QaF hk,Qaa hk];rfl
theorem ym (ws:List Nat) (k:Nat) (hk:k≤ws.length):jb ws=jb (ws.take k)+B9^k*jb (ws.drop k):=by
 conv=>lhs;rw[←Qb2 k ws]
 rw[KB,Qak,QaJ hk]
theorem VY {ws:List Nat} (hn:kp ws) (hok:jI ws) {k:Nat} (hk:k<ws.length):0<jb (ws.drop k):=by
 rcases QaA (jb (ws.drop k)) with h | h
 ·have h1:=Ky hn (by intro e;subst e;simp at hk)
  have h2:=ym ws k (by omega);rw[h,QbF] at h2;have h3:=qN (Jv hok k);rw[Qak,QaJ (by omega)] at h3;have h4:B9^k≤B9^(ws.length-1):=Qai (by decide) (by omega);omega
 ·exact h
def y7 (ws:List Nat) (k:Nat) (acc:List UInt8):Prop:=acc=decDigits (jb (ws.drop k))
theorem y7.step {ws:List Nat} {k:Nat} {acc:List UInt8} (hn:kp ws) (hok:jI ws) (hk:k+1<ws.length) (h:y7 ws (k+1) acc):y7 ws k (acc++qZ 9 (ws[k]?.getD 0)):=by
 unfold y7 at h ⊢;have h1:=VY hn hok hk;have h2:=kR hok k;rw[yG ws k (by omega),Qcr,Qam,h];exact(VL 9 _ _ h1 h2).symm
theorem y7.len {ws:List Nat} {k:Nat} {acc:List UInt8} (hok:jI ws) (h:y7 ws k acc):acc.length≤9*ws.length+1:=by
 unfold y7 at h;rw[h,decDigits_length];refine J9 _ _ ?_;have h1:=qN (ws:=ws.drop k) (fun x hx=>hok x (Qb5 hx));have h2:B9^(ws.drop k).length≤B9^ws.length:=Qai (by decide) (by rw[Qa3];omega)
 have h3:B9^ws.length=10^(9*ws.length):=by rw[QbY]
 have h4:10^(9*ws.length)≤10^(9*ws.length+1):=Qai (by decide) (by omega);omega
theorem K6 (v:Value) (x:Int) (w:World) (h:Ri w v x):
  Calls Tryz.prog 168 #[v] w (qh (zH x) w):=by
 obtain⟨dv,ws,rfl,hv,hok,hn,hs⟩:=h;obtain⟨A,c,rfl,hc1,hc2⟩:=hs.form;rw[kh] at hc1 hc2 hs ⊢;have hb:Below w.heap.size w (w.alloc (.cells #[.bool (decide (x<0)),.slice A ws.length c] 178)):=(Below.refl _ _).alloc (Nat.le_refl _) _;have HB0:=hid hb;have HOw:Hid (ja (w.alloc (.cells #[.bool (decide (x<0)),.slice A ws.length c] 178)) w.heap.size 178 [.bool (decide (x<0)),.slice A ws.length c]):=hid (ja.make _ _ _);have HN:=hid hn;have HOK:=hid hok;have HV:=hid hv;clear hb hn hok hv;by_cases h0:ws=[]
 ·subst h0
  have hx:x=0:=by have:=HV.out;simp[jb] at this;omega
  have HE:Hid (zH x=[48]):=hid (by rw[hx];unfold zH;rw[if_neg (by decide)];exact decDigits_one (by decide));clear hx hs;generalize decide (x<0)=bx at *;go_enter Tryz.func168,Tryz.ntmps168
  go_wp2
  go_ret;exact⟨by rw[HE.out];rfl,HB0.out⟩
 ·obtain⟨m,hm⟩:∃m,ws.length=m+1:=⟨ws.length-1,by have:=List.length_pos_iff.2 h0;omega⟩
  clear h0;obtain⟨b,off,rfl,hblt,hcell⟩:=hs.at_ (k:=m) (by rw[kh];omega);have HC:Hid (∀j,j<ws.length→w.cell? ⟨b,off+j,none⟩=some (.int .i64 ((ws[j]?.getD 0:Nat):Int))):=hid (fun j hj=>by rw[hcell j (by rw[kh];omega),qq ws j hj]);clear hcell hs;generalize hbx:decide (x<0)=bx at *;have HX:=hid hbx;clear hbx;have ck:=HC.out m (by omega)
  have hmb:(m:Int)≤140737488355328:=by omega
  have HT0:Hid (y7 ws m (decDigits (ws[m]?.getD 0))):=hid (by
   unfold y7
   rw[yG ws m (by omega),Qbx (by omega)];simp[jb])
  have D1:=hid (fun w=>Zc (ws[m]?.getD 0) w (by have:=kR HOK.out m;unfold B9 at this;omega));have HL1:Hid ((decDigits (ws[m]?.getD 0)).length≤9*ws.length+1):=hid (HT0.out.len HOK.out);generalize ws[m]?.getD 0=top at *;clear hc2;rw[hm] at hc1 HOw HB0 HL1 ⊢;have HM:=hid hm;clear hm;go_enter Tryz.func168,Tryz.ntmps168
  go_wp2_with fail
  refine(D1.out _).mono ?_;clear D1;rintro e w1 ⟨rfl,hB1⟩;have HO1:=hid (HOw.out.below hB1 HOw.out.lt);have HB1:=hid (HB0.out.trans (hB1.mono HB0.out.size));obtain⟨c0,c1,f0,f1⟩:=HO1.out.two;clear hB1 ck
  go_wp2_with fail
  go_loopg [3,4] m (fun g s i wr=>∃acc:List UInt8,s = .string ⟨acc.toArray⟩∧i = .int .i64 ((g:Int)-1)∧(g:Int)≤(m:Int)∧Hid (y7 ws g acc)∧Hid (ja wr w.heap.size 178 [.bool bx,.slice (some ⟨b,off,none⟩) (m+1) c])∧Hid (Below w.heap.size w wr))
  case atStart=>exact⟨_,rfl,by go_num,Int.le_refl _,HT0,HO1,HB1⟩
  case round=>
   obtain⟨acc,rfl,rfl,hgm,hT,hO,hB⟩:=hrel;clear c0 c1 f0 f1;obtain⟨c0,c1,f0,f1⟩:=hO.out.two;have hal:=hid (hT.out.len HOK.out)
   have hal2:acc.length≤2266637395197953:=by have h1:=hal.out;have h2:=HM.out;omega
   cases gk with
   | zero=>
    have hin:¬((0:Int)≤((0:Nat):Int)-1):=by omega
    have HE:Hid (acc=decDigits x.natAbs):=hid (by have:=hT.out;unfold y7 at this;rw[this,Qa0,HV.out]);clear hT hal;have HBT:=hid hB.out
    cases bx with
    | true=>
     have HE2:Hid (zH x=45::acc):=hid (by unfold zH;rw[if_pos (QaL HX.out),HE.out];rfl)
     go_wp2
     go_ret;exact⟨by rw[HE2.out,←KF];rfl,HBT.out⟩
    | false=>
     have HE2:Hid (zH x=acc):=hid (by unfold zH;rw[if_neg (of_decide_eq_false HX.out),HE.out];rfl)
     go_wp2
     go_ret;exact⟨by rw[HE2.out];rfl,HBT.out⟩
   | succ gh=>
    have hgm2:gh<m:=by omega
    have ck:=(hB.out.cell (p:=⟨b,off+gh,none⟩) hblt).trans (HC.out gh (by have:=HM.out;omega));have HS:=hid (hT.out.step HN.out HOK.out (by have:=HM.out;omega));have D9:=hid (fun w=>Ny (ws[gh]?.getD 0) w (kR HOK.out gh));have HPL:(qZ 9 (ws[gh]?.getD 0)).length=9:=C9 _ _
    have hin:(0:Int)≤((gh+1:Nat):Int)-1:=by omega
    have hbs:=hB.out.size
    have hbl:b<wr.heap.size:=by omega
    clear hT;generalize ws[gh]?.getD 0=dg at *
    go_wp2_with fail
    refine(D9.out _).mono ?_;rintro e w2 ⟨rfl,hB2⟩;have HO3:=hid (hO.out.below hB2 hO.out.lt);have HB3:=hid (hB.out.trans (hB2.mono hbs));clear hB2 c0 c1 f0 f1
    go_wp2
    go_roundg gh
    case rel=>exact⟨_,by rw[ByteArray.mk_append_mk],by go_num,by omega,HS,HO3,HB3⟩
    case measure=>omega
theorem Yn {w:World} {v:Value} {x:Int} (h:Ri w v x):∃b n dv,v = .agg #[.bool b,dv]∧x=sg b n∧n=x.natAbs∧Dg w dv n:=by
 obtain⟨dv,rfl,hd⟩:=h.dg;refine⟨decide (x<0),x.natAbs,dv,rfl,?_,rfl,hd⟩;unfold sg;by_cases h:x<0
 ·rw[QaK h,if_pos rfl];omega
 ·rw[Qat h,if_neg (by simp)];omega
theorem Dg.slice {w:World} {v:Value} {x:Nat} (h:Dg w v x) (hx:jQ x):∃ws A c,v = .slice A ws.length c∧jb ws=x∧jI ws∧ws.length≤1000000∧jD w (.slice A ws.length c) (jm ws):=by
 obtain⟨ws,A,c,rfl,h1,h2,h3,h4,h5,h6⟩:=h.open_;exact⟨ws,A,c,rfl,h1,h2,hx.len h3 h1,h6⟩
def P3 (w W:World) (na nb:Bool) (dv ev:Value):Prop:=
 Below w.heap.size w W∧W.heap.size=w.heap.size+3∧ja W w.heap.size 178 [.bool na,dv]∧ja W (w.heap.size+1) 178 [.bool nb,ev]∧ja W (w.heap.size+1+1) 178 [.bool false,.slice none 0 0]
theorem P3.mk (w:World) (na nb:Bool) (dv ev:Value):P3 w (((w.alloc (.cells #[.bool na,dv] 178)).alloc (.cells #[.bool nb,ev] 178)).alloc (.cells #[.bool false,.slice none 0 0] 178)) na nb dv ev:=by
 refine⟨(((Below.refl _ _).alloc (Nat.le_refl _) _).alloc (by simp) _).alloc (by simp;omega) _,by simp,((ja.make w _ [.bool na,dv]).alloc _).alloc _,?_,?_⟩
 ·have:=ja.make (w.alloc (.cells #[.bool na,dv] 178)) 178 [.bool nb,ev]
  simp only[World.size_alloc] at this;exact this.alloc _
 ·have:=ja.make ((w.alloc (.cells #[.bool na,dv] 178)).alloc (.cells #[.bool nb,ev] 178)) 178 [.bool false,.slice none 0 0]
  simp only[World.size_alloc] at this;exact this
def S3 (w:World) (na nb:Bool) (dv ev:Value) (x:World):Prop:=
 x.cell? ⟨w.heap.size,0,none⟩=some (.bool na)∧x.cell? ⟨w.heap.size,1,none⟩=some dv∧x.cell? ⟨w.heap.size+1,0,none⟩=some (.bool nb)∧x.cell? ⟨w.heap.size+1,1,none⟩=some ev∧w.heap.size+2<x.heap.size∧Below w.heap.size w x
theorem S3.start {w W:World} {na nb:Bool} {dv ev:Value} (h:P3 w W na nb dv ev):S3 w na nb dv ev W:=⟨h.2.2.1.cell 0,h.2.2.1.cell 1,h.2.2.2.1.cell 0,h.2.2.2.1.cell 1,by have:=h.2.1;omega,h.1⟩
theorem S3.call {w x x':World} {na nb:Bool} {dv ev:Value} (hb:Below x.heap.size x x') (h:S3 w na nb dv ev x):S3 w na nb dv ev x':=by
 obtain⟨h1,h2,h3,h4,h5,h6⟩:=h;exact⟨(hb.cell (p:=⟨w.heap.size,0,none⟩) (by simp;omega)).trans h1,(hb.cell (p:=⟨w.heap.size,1,none⟩) (by simp;omega)).trans h2,(hb.cell (p:=⟨w.heap.size+1,0,none⟩) (by simp;omega)).trans h3,(hb.cell (p:=⟨w.heap.size+1,1,none⟩) (by simp;omega)).trans h4,Qac h5 hb.size,h6.trans (hb.mono h6.size)⟩
theorem S3.put {w x:World} {na nb:Bool} {dv ev:Value} (a b:Value) (h:S3 w na nb dv ev x):S3 w na nb dv ev ((x.setCell ⟨w.heap.size+1+1,0,none⟩ a).setCell ⟨w.heap.size+1+1,1,none⟩ b):=by
 obtain⟨h1,h2,h3,h4,h5,h6⟩:=h
 have o0:∀(b i:Nat) (x:World) (u:Value) (j:Nat),b≠w.heap.size+1+1→(x.setCell ⟨w.heap.size+1+1,j,none⟩ u).cell? ⟨b,i,none⟩=x.cell? ⟨b,i,none⟩:=fun b i x u j hb=>World.cell?_setCell_other _ _ _ _ (by intro e;injection e with e1;exact hb e1.symm)
 refine⟨?_,?_,?_,?_,by simpa using h5,(h6.setCell (by simp;omega) _).setCell (by simp;omega) _⟩
 ·rw[o0 _ _ _ _ _ (by omega),o0 _ _ _ _ _ (by omega)];exact h1
 ·rw[o0 _ _ _ _ _ (by omega),o0 _ _ _ _ _ (by omega)];exact h2
 ·rw[o0 _ _ _ _ _ (by omega),o0 _ _ _ _ _ (by omega)];exact h3
 ·rw[o0 _ _ _ _ _ (by omega),o0 _ _ _ _ _ (by omega)];exact h4
theorem S3.drew {w x:World} {na nb:Bool} {dv ev:Value} (h:S3 w na nb dv ev x):S3 w na nb dv ev x.drew:=⟨h.1,h.2.1,h.2.2.1,h.2.2.2.1,h.2.2.2.2.1,h.2.2.2.2.2.drew⟩
theorem S3.all {w x:World} {na nb:Bool} {dv ev:Value} (h:S3 w na nb dv ev x):x.cell? ⟨w.heap.size,0,none⟩=some (.bool na)∧x.cell? ⟨w.heap.size,1,none⟩=some dv∧x.cell? ⟨w.heap.size+1,0,none⟩=some (.bool nb)∧x.cell? ⟨w.heap.size+1,1,none⟩=some ev∧w.heap.size+2<x.heap.size∧Below w.heap.size w x:=h
theorem Pt (dv ev:Value) (X Y:Nat) (w:World) (h1:Dg w dv X) (h2:Dg w ev Y) (bX:jQ X) (bY:jQ Y):
  Calls Tryz.prog 138 #[.agg #[.bool true,dv],.agg #[.bool true,ev]] w (kZ (sg false (X*Y)) w):=by
 obtain⟨ps,A,c,rfl,e1,o1,l1,s1⟩:=h1.slice bX;obtain⟨qs,B,d,rfl,e2,o2,l2,s2⟩:=h2.slice bY
 obtain⟨W0,hW0⟩:∃W0,W0=((w.alloc (.cells #[.bool true,.slice A ps.length c] 178)).alloc (.cells #[.bool true,.slice B qs.length d] 178)).alloc (.cells #[.bool false,.slice none 0 0] 178):=⟨_,rfl⟩
 have hP:P3 w W0 true true (.slice A ps.length c) (.slice B qs.length d):=by rw[hW0];exact P3.mk w true true _ _
 have F1:Hid (∀W,Below w.heap.size w W→Calls Tryz.prog 173 #[.slice A ps.length c,.slice B qs.length d] W (JB (X*Y) W)):=hid (fun W hb=>(KM _ _ X Y W (h1.below hb) (h2.below hb) bX bY).mono fun e w' h=>by
  obtain⟨v,rfl,⟨ws,q1,q2,q3,q4⟩,hB⟩:=h
  exact⟨v,ws,rfl,q1,q2,q4,hB⟩)
 have KS:=hid (S3.start hP);have hR0:=hid hP.2.2.2.2;clear h1 h2 s1 s2 hP o1 o2 l1 l2 e1 e2 bX bY;generalize ps.length=n at *;generalize qs.length=m at *;obtain⟨a0,a1,b0,b1,hsz,hbl⟩:=KS.out.all;go_enter Tryz.func138,Tryz.ntmps138
 go_upto_region 1 with fail
 rw[←hW0];clear hW0
 go_wp2_with fail
 go_region_held3 (fun x=>x.cell? ⟨w.heap.size,0,none⟩=some (.bool true)∧x.cell? ⟨w.heap.size,1,none⟩=some (.slice A n c)∧x.cell? ⟨w.heap.size+1,0,none⟩=some (.bool true)∧x.cell? ⟨w.heap.size+1,1,none⟩=some (.slice B m d)∧w.heap.size+2<x.heap.size∧Below w.heap.size w x)
  (first | exact KS.out.drew.all | exact(KS.out.call (by assumption)).drew.all | (go_split_ands;exact S3.all (S3.call (by assumption) ⟨by assumption,by assumption,by assumption,by assumption,by assumption,by assumption⟩)) | (go_split_ands;exact S3.all (S3.put _ _ ⟨by assumption,by assumption,by assumption,by assumption,by assumption,by assumption⟩)))
  (first
   | (go_at_call 173;go_split_ands;refine(F1.out _ (by assumption)).mono ?_;rintro e3 w3 ⟨lv,L,rfl,hLv,hLo,hLs,hB3⟩;have hR3:=qJ hB3 hR0)
   | (go_at_call 169;go_split_ands;refine(xR false lv L _ hLo hLs).mono ?_;rintro e4 w4 ⟨rv,rfl,hri,hB4⟩;have hR4:=qJ hB4 hR3;obtain⟨r0,r1,k0,k1⟩:=hR4.out.two;obtain⟨RA,rn,rc,rfl,hr1,hr2⟩:=hri.open_))
 rw[hLv] at hri;have HRF:=hid (hri.put2 (a':= .bool (decide (sg false (X*Y)<0))) (b':= .slice RA rn rc) hR4.out (ju _) (jr _ _ _) (ju _));have HBF:Hid (Below w.heap.size w ((w4.setCell ⟨w.heap.size+1+1,0,none⟩ (.bool (decide (sg false (X*Y)<0)))).setCell ⟨w.heap.size+1+1,1,none⟩ (.slice RA rn rc))):=hid (by go_split_ands;assumption)
 go_wp2
 obtain⟨z0,z1,_,_⟩:=(hR4.out.set2 (a':= .bool (decide (sg false (X*Y)<0))) (b':= .slice RA rn rc)).two;exact bodyPost_ret (v:= .agg #[.bool (decide (sg false (X*Y)<0)),.slice RA rn rc]) (by simp[results,Tryz.results138,go_sem,z0,z1]) rfl ⟨_,rfl,HRF.out,HBF.out⟩
theorem Ps (dv ev:Value) (X Y:Nat) (w:World) (h1:Dg w dv X) (h2:Dg w ev Y) (bX:jQ X) (bY:jQ Y):
  Calls Tryz.prog 138 #[.agg #[.bool true,dv],.agg #[.bool false,ev]] w (kZ (sg true (X*Y)) w):=by
 obtain⟨ps,A,c,rfl,e1,o1,l1,s1⟩:=h1.slice bX;obtain⟨qs,B,d,rfl,e2,o2,l2,s2⟩:=h2.slice bY
 obtain⟨W0,hW0⟩:∃W0,W0=((w.alloc (.cells #[.bool true,.slice A ps.length c] 178)).alloc (.cells #[.bool false,.slice B qs.length d] 178)).alloc (.cells #[.bool false,.slice none 0 0] 178):=⟨_,rfl⟩
 have hP:P3 w W0 true false (.slice A ps.length c) (.slice B qs.length d):=by rw[hW0];exact P3.mk w true false _ _
 have F1:Hid (∀W,Below w.heap.size w W→Calls Tryz.prog 173 #[.slice A ps.length c,.slice B qs.length d] W (JB (X*Y) W)):=hid (fun W hb=>(KM _ _ X Y W (h1.below hb) (h2.below hb) bX bY).mono fun e w' h=>by
  obtain⟨v,rfl,⟨ws,q1,q2,q3,q4⟩,hB⟩:=h
  exact⟨v,ws,rfl,q1,q2,q4,hB⟩)
 have KS:=hid (S3.start hP);have hR0:=hid hP.2.2.2.2;clear h1 h2 s1 s2 hP o1 o2 l1 l2 e1 e2 bX bY;generalize ps.length=n at *;generalize qs.length=m at *;obtain⟨a0,a1,b0,b1,hsz,hbl⟩:=KS.out.all;go_enter Tryz.func138,Tryz.ntmps138
 go_upto_region 1 with fail
 rw[←hW0];clear hW0
 go_wp2_with fail
 go_region_held3 (fun x=>x.cell? ⟨w.heap.size,0,none⟩=some (.bool true)∧x.cell? ⟨w.heap.size,1,none⟩=some (.slice A n c)∧x.cell? ⟨w.heap.size+1,0,none⟩=some (.bool false)∧x.cell? ⟨w.heap.size+1,1,none⟩=some (.slice B m d)∧w.heap.size+2<x.heap.size∧Below w.heap.size w x)
  (first | exact KS.out.drew.all | exact(KS.out.call (by assumption)).drew.all | (go_split_ands;exact S3.all (S3.call (by assumption) ⟨by assumption,by assumption,by assumption,by assumption,by assumption,by assumption⟩)) | (go_split_ands;exact S3.all (S3.put _ _ ⟨by assumption,by assumption,by assumption,by assumption,by assumption,by assumption⟩)))
  (first
   | (go_at_call 173;go_split_ands;refine(F1.out _ (by assumption)).mono ?_;rintro e3 w3 ⟨lv,L,rfl,hLv,hLo,hLs,hB3⟩;have hR3:=qJ hB3 hR0)
   | (go_at_call 169;go_split_ands;refine(xR true lv L _ hLo hLs).mono ?_;rintro e4 w4 ⟨rv,rfl,hri,hB4⟩;have hR4:=qJ hB4 hR3;obtain⟨r0,r1,k0,k1⟩:=hR4.out.two;obtain⟨RA,rn,rc,rfl,hr1,hr2⟩:=hri.open_))
 rw[hLv] at hri;have HRF:=hid (hri.put2 (a':= .bool (decide (sg true (X*Y)<0))) (b':= .slice RA rn rc) hR4.out (ju _) (jr _ _ _) (ju _));have HBF:Hid (Below w.heap.size w ((w4.setCell ⟨w.heap.size+1+1,0,none⟩ (.bool (decide (sg true (X*Y)<0)))).setCell ⟨w.heap.size+1+1,1,none⟩ (.slice RA rn rc))):=hid (by go_split_ands;assumption)
 go_wp2
 obtain⟨z0,z1,_,_⟩:=(hR4.out.set2 (a':= .bool (decide (sg true (X*Y)<0))) (b':= .slice RA rn rc)).two;exact bodyPost_ret (v:= .agg #[.bool (decide (sg true (X*Y)<0)),.slice RA rn rc]) (by simp[results,Tryz.results138,go_sem,z0,z1]) rfl ⟨_,rfl,HRF.out,HBF.out⟩
theorem Pp (dv ev:Value) (X Y:Nat) (w:World) (h1:Dg w dv X) (h2:Dg w ev Y) (bX:jQ X) (bY:jQ Y):
  Calls Tryz.prog 138 #[.agg #[.bool false,dv],.agg #[.bool true,ev]] w (kZ (sg true (X*Y)) w):=by
 obtain⟨ps,A,c,rfl,e1,o1,l1,s1⟩:=h1.slice bX;obtain⟨qs,B,d,rfl,e2,o2,l2,s2⟩:=h2.slice bY
 obtain⟨W0,hW0⟩:∃W0,W0=((w.alloc (.cells #[.bool false,.slice A ps.length c] 178)).alloc (.cells #[.bool true,.slice B qs.length d] 178)).alloc (.cells #[.bool false,.slice none 0 0] 178):=⟨_,rfl⟩
 have hP:P3 w W0 false true (.slice A ps.length c) (.slice B qs.length d):=by rw[hW0];exact P3.mk w false true _ _
 have F1:Hid (∀W,Below w.heap.size w W→Calls Tryz.prog 173 #[.slice A ps.length c,.slice B qs.length d] W (JB (X*Y) W)):=hid (fun W hb=>(KM _ _ X Y W (h1.below hb) (h2.below hb) bX bY).mono fun e w' h=>by
  obtain⟨v,rfl,⟨ws,q1,q2,q3,q4⟩,hB⟩:=h
  exact⟨v,ws,rfl,q1,q2,q4,hB⟩)
 have KS:=hid (S3.start hP);have hR0:=hid hP.2.2.2.2;clear h1 h2 s1 s2 hP o1 o2 l1 l2 e1 e2 bX bY;generalize ps.length=n at *;generalize qs.length=m at *;obtain⟨a0,a1,b0,b1,hsz,hbl⟩:=KS.out.all;go_enter Tryz.func138,Tryz.ntmps138
 go_upto_region 1 with fail
 rw[←hW0];clear hW0
 go_wp2_with fail
 go_region_held3 (fun x=>x.cell? ⟨w.heap.size,0,none⟩=some (.bool false)∧x.cell? ⟨w.heap.size,1,none⟩=some (.slice A n c)∧x.cell? ⟨w.heap.size+1,0,none⟩=some (.bool true)∧x.cell? ⟨w.heap.size+1,1,none⟩=some (.slice B m d)∧w.heap.size+2<x.heap.size∧Below w.heap.size w x)
  (first | exact KS.out.drew.all | exact(KS.out.call (by assumption)).drew.all | (go_split_ands;exact S3.all (S3.call (by assumption) ⟨by assumption,by assumption,by assumption,by assumption,by assumption,by assumption⟩)) | (go_split_ands;exact S3.all (S3.put _ _ ⟨by assumption,by assumption,by assumption,by assumption,by assumption,by assumption⟩)))
  (first
   | (go_at_call 173;go_split_ands;refine(F1.out _ (by assumption)).mono ?_;rintro e3 w3 ⟨lv,L,rfl,hLv,hLo,hLs,hB3⟩;have hR3:=qJ hB3 hR0)
   | (go_at_call 169;go_split_ands;refine(xR true lv L _ hLo hLs).mono ?_;rintro e4 w4 ⟨rv,rfl,hri,hB4⟩;have hR4:=qJ hB4 hR3;obtain⟨r0,r1,k0,k1⟩:=hR4.out.two;obtain⟨RA,rn,rc,rfl,hr1,hr2⟩:=hri.open_))
 rw[hLv] at hri;have HRF:=hid (hri.put2 (a':= .bool (decide (sg true (X*Y)<0))) (b':= .slice RA rn rc) hR4.out (ju _) (jr _ _ _) (ju _));have HBF:Hid (Below w.heap.size w ((w4.setCell ⟨w.heap.size+1+1,0,none⟩ (.bool (decide (sg true (X*Y)<0)))).setCell ⟨w.heap.size+1+1,1,none⟩ (.slice RA rn rc))):=hid (by go_split_ands;assumption)
 go_wp2
 obtain⟨z0,z1,_,_⟩:=(hR4.out.set2 (a':= .bool (decide (sg true (X*Y)<0))) (b':= .slice RA rn rc)).two;exact bodyPost_ret (v:= .agg #[.bool (decide (sg true (X*Y)<0)),.slice RA rn rc]) (by simp[results,Tryz.results138,go_sem,z0,z1]) rfl ⟨_,rfl,HRF.out,HBF.out⟩
theorem Po (dv ev:Value) (X Y:Nat) (w:World) (h1:Dg w dv X) (h2:Dg w ev Y) (bX:jQ X) (bY:jQ Y):
  Calls Tryz.prog 138 #[.agg #[.bool false,dv],.agg #[.bool false,ev]] w (kZ (sg false (X*Y)) w):=by
 obtain⟨ps,A,c,rfl,e1,o1,l1,s1⟩:=h1.slice bX;obtain⟨qs,B,d,rfl,e2,o2,l2,s2⟩:=h2.slice bY
 obtain⟨W0,hW0⟩:∃W0,W0=((w.alloc (.cells #[.bool false,.slice A ps.length c] 178)).alloc (.cells #[.bool false,.slice B qs.length d] 178)).alloc (.cells #[.bool false,.slice none 0 0] 178):=⟨_,rfl⟩
 have hP:P3 w W0 false false (.slice A ps.length c) (.slice B qs.length d):=by rw[hW0];exact P3.mk w false false _ _
 have F1:Hid (∀W,Below w.heap.size w W→Calls Tryz.prog 173 #[.slice A ps.length c,.slice B qs.length d] W (JB (X*Y) W)):=hid (fun W hb=>(KM _ _ X Y W (h1.below hb) (h2.below hb) bX bY).mono fun e w' h=>by
  obtain⟨v,rfl,⟨ws,q1,q2,q3,q4⟩,hB⟩:=h
  exact⟨v,ws,rfl,q1,q2,q4,hB⟩)
 have KS:=hid (S3.start hP);have hR0:=hid hP.2.2.2.2;clear h1 h2 s1 s2 hP o1 o2 l1 l2 e1 e2 bX bY;generalize ps.length=n at *;generalize qs.length=m at *;obtain⟨a0,a1,b0,b1,hsz,hbl⟩:=KS.out.all;go_enter Tryz.func138,Tryz.ntmps138
 go_upto_region 1 with fail
 rw[←hW0];clear hW0
 go_wp2_with fail
 go_region_held3 (fun x=>x.cell? ⟨w.heap.size,0,none⟩=some (.bool false)∧x.cell? ⟨w.heap.size,1,none⟩=some (.slice A n c)∧x.cell? ⟨w.heap.size+1,0,none⟩=some (.bool false)∧x.cell? ⟨w.heap.size+1,1,none⟩=some (.slice B m d)∧w.heap.size+2<x.heap.size∧Below w.heap.size w x)
  (first | exact KS.out.drew.all | exact(KS.out.call (by assumption)).drew.all | (go_split_ands;exact S3.all (S3.call (by assumption) ⟨by assumption,by assumption,by assumption,by assumption,by assumption,by assumption⟩)) | (go_split_ands;exact S3.all (S3.put _ _ ⟨by assumption,by assumption,by assumption,by assumption,by assumption,by assumption⟩)))
  (first
   | (go_at_call 173;go_split_ands;refine(F1.out _ (by assumption)).mono ?_;rintro e3 w3 ⟨lv,L,rfl,hLv,hLo,hLs,hB3⟩;have hR3:=qJ hB3 hR0)
   | (go_at_call 169;go_split_ands;refine(xR false lv L _ hLo hLs).mono ?_;rintro e4 w4 ⟨rv,rfl,hri,hB4⟩;have hR4:=qJ hB4 hR3;obtain⟨r0,r1,k0,k1⟩:=hR4.out.two;obtain⟨RA,rn,rc,rfl,hr1,hr2⟩:=hri.open_))
 rw[hLv] at hri;have HRF:=hid (hri.put2 (a':= .bool (decide (sg false (X*Y)<0))) (b':= .slice RA rn rc) hR4.out (ju _) (jr _ _ _) (ju _));have HBF:Hid (Below w.heap.size w ((w4.setCell ⟨w.heap.size+1+1,0,none⟩ (.bool (decide (sg false (X*Y)<0)))).setCell ⟨w.heap.size+1+1,1,none⟩ (.slice RA rn rc))):=hid (by go_split_ands;assumption)
 go_wp2
 obtain⟨z0,z1,_,_⟩:=(hR4.out.set2 (a':= .bool (decide (sg false (X*Y)<0))) (b':= .slice RA rn rc)).two;exact bodyPost_ret (v:= .agg #[.bool (decide (sg false (X*Y)<0)),.slice RA rn rc]) (by simp[results,Tryz.results138,go_sem,z0,z1]) rfl ⟨_,rfl,HRF.out,HBF.out⟩
def VE (r:Int) (w:World) (e:Ending) (w':World):Prop:=e = .returned (.int .i64 r)∧Below w.heap.size w w'
theorem Fr (na nb:Bool) (dv ev:Value) (X Y:Nat) (w:World) (h1:Dg w dv X) (h2:Dg w ev Y) (bX:jQ X) (bY:jQ Y) (hab:(na==nb)=true):
  Calls Tryz.prog 174 #[.agg #[.bool na,dv],.agg #[.bool nb,ev]] w (kZ (sg na (X+Y)) w):=by
 obtain⟨ps,A,c,rfl,e1,o1,l1,s1⟩:=h1.slice bX;obtain⟨qs,B,d,rfl,e2,o2,l2,s2⟩:=h2.slice bY
 obtain⟨W0,hW0⟩:∃W0,W0=((w.alloc (.cells #[.bool na,.slice A ps.length c] 178)).alloc (.cells #[.bool nb,.slice B qs.length d] 178)).alloc (.cells #[.bool false,.slice none 0 0] 178):=⟨_,rfl⟩
 have hP:P3 w W0 na nb (.slice A ps.length c) (.slice B qs.length d):=by rw[hW0];exact P3.mk w na nb _ _
 have F1:Hid (∀W,Below w.heap.size w W→Calls Tryz.prog 208 #[.slice A ps.length c,.slice B qs.length d] W (JB (X+Y) W)):=hid (fun W hb=>by
  have h:=SE _ _ ps qs W (s1.below hb) (s2.below hb) o1 o2 l1 l2
  rw[e1,e2] at h;exact h)
 have KS:=hid (S3.start hP);have hR0:=hid hP.2.2.2.2;clear h1 h2 s1 s2 hP o1 o2 l1 l2 e1 e2 bX bY;generalize ps.length=n at *;generalize qs.length=m at *;obtain⟨a0,a1,b0,b1,hsz,hbl⟩:=KS.out.all;go_enter Tryz.func174,Tryz.ntmps174
 go_upto_region 1 with fail
 rw[←hW0];clear hW0
 go_wp2_with fail
 go_region_held3 (fun x=>x.cell? ⟨w.heap.size,0,none⟩=some (.bool na)∧x.cell? ⟨w.heap.size,1,none⟩=some (.slice A n c)∧x.cell? ⟨w.heap.size+1,0,none⟩=some (.bool nb)∧x.cell? ⟨w.heap.size+1,1,none⟩=some (.slice B m d)∧w.heap.size+2<x.heap.size∧Below w.heap.size w x)
  (first | exact KS.out.drew.all | exact(KS.out.call (by assumption)).drew.all | (go_split_ands;exact S3.all (S3.call (by assumption) ⟨by assumption,by assumption,by assumption,by assumption,by assumption,by assumption⟩)) | (go_split_ands;exact S3.all (S3.put _ _ ⟨by assumption,by assumption,by assumption,by assumption,by assumption,by assumption⟩)))
  (first
   | (go_at_call 208;go_split_ands;refine(F1.out _ (by assumption)).mono ?_;rintro e3 w3 ⟨lv,L,rfl,hLv,hLo,hLs,hB3⟩;have hR3:=qJ hB3 hR0)
   | (go_at_call 169;go_split_ands;refine(xR na lv L _ hLo hLs).mono ?_;rintro e4 w4 ⟨rv,rfl,hri,hB4⟩;have hR4:=qJ hB4 hR3;obtain⟨r0,r1,k0,k1⟩:=hR4.out.two;obtain⟨RA,rn,rc,rfl,hr1,hr2⟩:=hri.open_))
 rw[hLv] at hri;have HRF:=hid (hri.put2 (a':= .bool (decide (sg na (X+Y)<0))) (b':= .slice RA rn rc) hR4.out (ju _) (jr _ _ _) (ju _));have HBF:Hid (Below w.heap.size w ((w4.setCell ⟨w.heap.size+1+1,0,none⟩ (.bool (decide (sg na (X+Y)<0)))).setCell ⟨w.heap.size+1+1,1,none⟩ (.slice RA rn rc))):=hid (by go_split_ands;assumption)
 go_wp2
 obtain⟨z0,z1,_,_⟩:=(hR4.out.set2 (a':= .bool (decide (sg na (X+Y)<0))) (b':= .slice RA rn rc)).two;exact bodyPost_ret (v:= .agg #[.bool (decide (sg na (X+Y)<0)),.slice RA rn rc]) (by simp[results,Tryz.results174,go_sem,z0,z1]) rfl ⟨_,rfl,HRF.out,HBF.out⟩
theorem Fm (na nb:Bool) (dv ev:Value) (X Y:Nat) (w:World) (h1:Dg w dv X) (h2:Dg w ev Y) (bX:jQ X) (bY:jQ Y) (hab:(na==nb)=false) (hle:Y≤X):
  Calls Tryz.prog 174 #[.agg #[.bool na,dv],.agg #[.bool nb,ev]] w (kZ (sg na (X-Y)) w):=by
 obtain⟨ps,A,c,rfl,e1,o1,l1,s1⟩:=h1.slice bX;obtain⟨qs,B,d,rfl,e2,o2,l2,s2⟩:=h2.slice bY
 obtain⟨W0,hW0⟩:∃W0,W0=((w.alloc (.cells #[.bool na,.slice A ps.length c] 178)).alloc (.cells #[.bool nb,.slice B qs.length d] 178)).alloc (.cells #[.bool false,.slice none 0 0] 178):=⟨_,rfl⟩
 have hP:P3 w W0 na nb (.slice A ps.length c) (.slice B qs.length d):=by rw[hW0];exact P3.mk w na nb _ _
 have F1:Hid (∀W,Below w.heap.size w W→Calls Tryz.prog 209 #[.slice A ps.length c,.slice B qs.length d] W (JB (X-Y) W)):=hid (fun W hb=>by
  exact(Em _ _ _ _ W (h1.below hb) (h2.below hb) hle bX).mono fun e w' h=>by
   obtain⟨v,rfl,⟨ws,q1,q2,q3,q4⟩,hB⟩:=h
   exact⟨v,ws,rfl,q1,q2,q4,hB⟩)
 have C1:Hid (∀W,Below w.heap.size w W→Calls Tryz.prog 185 #[.slice A ps.length c,.slice B qs.length d] W (VE (kq X Y) W)):=hid (fun W hb=>Qm _ _ X Y W (h1.below hb) (h2.below hb));have KS:=hid (S3.start hP);have hR0:=hid hP.2.2.2.2;clear h1 h2 s1 s2 hP o1 o2 l1 l2 e1 e2 bX bY;have hor:(0:Int)≤kq X Y:=Kb hle;generalize ps.length=n at *;generalize qs.length=m at *;obtain⟨a0,a1,b0,b1,hsz,hbl⟩:=KS.out.all;go_enter Tryz.func174,Tryz.ntmps174
 go_upto_region 1 with fail
 rw[←hW0];clear hW0
 go_wp2_with fail
 refine(C1.out _ hbl).mono ?_;rintro e w1 ⟨rfl,hB1⟩;replace KS:=hid (KS.out.call hB1);have hR1:=qJ hB1 hR0;clear a0 a1 b0 b1 hsz hbl hB1 C1 hR0;obtain⟨a0,a1,b0,b1,hsz,hbl⟩:=KS.out.all
 go_wp2_with fail
 go_region_held3 (fun x=>x.cell? ⟨w.heap.size,0,none⟩=some (.bool na)∧x.cell? ⟨w.heap.size,1,none⟩=some (.slice A n c)∧x.cell? ⟨w.heap.size+1,0,none⟩=some (.bool nb)∧x.cell? ⟨w.heap.size+1,1,none⟩=some (.slice B m d)∧w.heap.size+2<x.heap.size∧Below w.heap.size w x)
  (first | exact KS.out.drew.all | exact(KS.out.call (by assumption)).drew.all | (go_split_ands;exact S3.all (S3.call (by assumption) ⟨by assumption,by assumption,by assumption,by assumption,by assumption,by assumption⟩)) | (go_split_ands;exact S3.all (S3.put _ _ ⟨by assumption,by assumption,by assumption,by assumption,by assumption,by assumption⟩)))
  (first
   | (go_at_call 209;go_split_ands;refine(F1.out _ (by assumption)).mono ?_;rintro e3 w3 ⟨lv,L,rfl,hLv,hLo,hLs,hB3⟩;have hR3:=qJ hB3 hR1)
   | (go_at_call 169;go_split_ands;refine(xR na lv L _ hLo hLs).mono ?_;rintro e4 w4 ⟨rv,rfl,hri,hB4⟩;have hR4:=qJ hB4 hR3;obtain⟨r0,r1,k0,k1⟩:=hR4.out.two;obtain⟨RA,rn,rc,rfl,hr1,hr2⟩:=hri.open_))
 rw[hLv] at hri;have HRF:=hid (hri.put2 (a':= .bool (decide (sg na (X-Y)<0))) (b':= .slice RA rn rc) hR4.out (ju _) (jr _ _ _) (ju _));have HBF:Hid (Below w.heap.size w ((w4.setCell ⟨w.heap.size+1+1,0,none⟩ (.bool (decide (sg na (X-Y)<0)))).setCell ⟨w.heap.size+1+1,1,none⟩ (.slice RA rn rc))):=hid (by go_split_ands;assumption)
 go_wp2
 obtain⟨z0,z1,_,_⟩:=(hR4.out.set2 (a':= .bool (decide (sg na (X-Y)<0))) (b':= .slice RA rn rc)).two;exact bodyPost_ret (v:= .agg #[.bool (decide (sg na (X-Y)<0)),.slice RA rn rc]) (by simp[results,Tryz.results174,go_sem,z0,z1]) rfl ⟨_,rfl,HRF.out,HBF.out⟩
theorem Fp (na nb:Bool) (dv ev:Value) (X Y:Nat) (w:World) (h1:Dg w dv X) (h2:Dg w ev Y) (bX:jQ X) (bY:jQ Y) (hab:(na==nb)=false) (hlt:X<Y):
  Calls Tryz.prog 174 #[.agg #[.bool na,dv],.agg #[.bool nb,ev]] w (kZ (sg nb (Y-X)) w):=by
 obtain⟨ps,A,c,rfl,e1,o1,l1,s1⟩:=h1.slice bX;obtain⟨qs,B,d,rfl,e2,o2,l2,s2⟩:=h2.slice bY
 obtain⟨W0,hW0⟩:∃W0,W0=((w.alloc (.cells #[.bool na,.slice A ps.length c] 178)).alloc (.cells #[.bool nb,.slice B qs.length d] 178)).alloc (.cells #[.bool false,.slice none 0 0] 178):=⟨_,rfl⟩
 have hP:P3 w W0 na nb (.slice A ps.length c) (.slice B qs.length d):=by rw[hW0];exact P3.mk w na nb _ _
 have F1:Hid (∀W,Below w.heap.size w W→Calls Tryz.prog 209 #[.slice B qs.length d,.slice A ps.length c] W (JB (Y-X) W)):=hid (fun W hb=>by
  exact(Em _ _ _ _ W (h2.below hb) (h1.below hb) (Qbo hlt) bY).mono fun e w' h=>by
   obtain⟨v,rfl,⟨ws,q1,q2,q3,q4⟩,hB⟩:=h
   exact⟨v,ws,rfl,q1,q2,q4,hB⟩)
 have C1:Hid (∀W,Below w.heap.size w W→Calls Tryz.prog 185 #[.slice A ps.length c,.slice B qs.length d] W (VE (kq X Y) W)):=hid (fun W hb=>Qm _ _ X Y W (h1.below hb) (h2.below hb));have KS:=hid (S3.start hP);have hR0:=hid hP.2.2.2.2;clear h1 h2 s1 s2 hP o1 o2 l1 l2 e1 e2 bX bY
 have hor:¬(0:Int)≤kq X Y:=by rw[JI hlt];decide
 generalize ps.length=n at *;generalize qs.length=m at *;obtain⟨a0,a1,b0,b1,hsz,hbl⟩:=KS.out.all;go_enter Tryz.func174,Tryz.ntmps174
 go_upto_region 1 with fail
 rw[←hW0];clear hW0
 go_wp2_with fail
 refine(C1.out _ hbl).mono ?_;rintro e w1 ⟨rfl,hB1⟩;replace KS:=hid (KS.out.call hB1);have hR1:=qJ hB1 hR0;clear a0 a1 b0 b1 hsz hbl hB1 C1 hR0;obtain⟨a0,a1,b0,b1,hsz,hbl⟩:=KS.out.all
 go_wp2_with fail
 go_region_held3 (fun x=>x.cell? ⟨w.heap.size,0,none⟩=some (.bool na)∧x.cell? ⟨w.heap.size,1,none⟩=some (.slice A n c)∧x.cell? ⟨w.heap.size+1,0,none⟩=some (.bool nb)∧x.cell? ⟨w.heap.size+1,1,none⟩=some (.slice B m d)∧w.heap.size+2<x.heap.size∧Below w.heap.size w x)
  (first | exact KS.out.drew.all | exact(KS.out.call (by assumption)).drew.all | (go_split_ands;exact S3.all (S3.call (by assumption) ⟨by assumption,by assumption,by assumption,by assumption,by assumption,by assumption⟩)) | (go_split_ands;exact S3.all (S3.put _ _ ⟨by assumption,by assumption,by assumption,by assumption,by assumption,by assumption⟩)))
  (first
   | (go_at_call 209;go_split_ands;refine(F1.out _ (by assumption)).mono ?_;rintro e3 w3 ⟨lv,L,rfl,hLv,hLo,hLs,hB3⟩;have hR3:=qJ hB3 hR1)
   | (go_at_call 169;go_split_ands;refine(xR nb lv L _ hLo hLs).mono ?_;rintro e4 w4 ⟨rv,rfl,hri,hB4⟩;have hR4:=qJ hB4 hR3;obtain⟨r0,r1,k0,k1⟩:=hR4.out.two;obtain⟨RA,rn,rc,rfl,hr1,hr2⟩:=hri.open_))
 rw[hLv] at hri;have HRF:=hid (hri.put2 (a':= .bool (decide (sg nb (Y-X)<0))) (b':= .slice RA rn rc) hR4.out (ju _) (jr _ _ _) (ju _));have HBF:Hid (Below w.heap.size w ((w4.setCell ⟨w.heap.size+1+1,0,none⟩ (.bool (decide (sg nb (Y-X)<0)))).setCell ⟨w.heap.size+1+1,1,none⟩ (.slice RA rn rc))):=hid (by go_split_ands;assumption)
 go_wp2
 obtain⟨z0,z1,_,_⟩:=(hR4.out.set2 (a':= .bool (decide (sg nb (Y-X)<0))) (b':= .slice RA rn rc)).two;exact bodyPost_ret (v:= .agg #[.bool (decide (sg nb (Y-X)<0)),.slice RA rn rc]) (by simp[results,Tryz.results174,go_sem,z0,z1]) rfl ⟨_,rfl,HRF.out,HBF.out⟩
theorem OB (na nb:Bool) (X Y:Nat):sg na X+sg nb Y=if (na==nb)=true then sg na (X+Y) else if Y≤X then sg na (X-Y) else sg nb (Y-X):=by
 unfold sg;cases na <;> cases nb <;> simp <;> (try split) <;> omega
theorem OA (na nb:Bool) (X Y:Nat):sg na X*sg nb Y=sg (na != nb) (X*Y):=by
 unfold sg;cases na <;> cases nb <;> simp[Int.neg_mul,Int.mul_neg]
theorem LP (v u:Value) (x y:Int) (w:World) (hx:Ri w v x) (hy:Ri w u y) (bx:jQ x.natAbs) (by_:jQ y.natAbs):Calls Tryz.prog 174 #[v,u] w (kZ (x+y) w):=by
 obtain⟨na,X,dv,rfl,e1,n1,d1⟩:=Yn hx;obtain⟨nb,Y,ev,rfl,e2,n2,d2⟩:=Yn hy;rw[←n1] at bx;rw[←n2] at by_;rw[e1,e2,OB];by_cases hab:(na==nb)=true
 ·rw[if_pos hab];exact Fr na nb dv ev X Y w d1 d2 bx by_ hab
 ·rw[if_neg hab]
  by_cases hle:Y≤X
  ·rw[if_pos hle];exact Fm na nb dv ev X Y w d1 d2 bx by_ (by simpa using hab) hle
  ·rw[if_neg hle];exact Fp na nb dv ev X Y w d1 d2 bx by_ (by simpa using hab) (by omega)
theorem QR (v u:Value) (x y:Int) (w:World) (hx:Ri w v x) (hy:Ri w u y) (bx:jQ x.natAbs) (by_:jQ y.natAbs):Calls Tryz.prog 138 #[v,u] w (kZ (x*y) w):=by
 obtain⟨na,X,dv,rfl,e1,n1,d1⟩:=Yn hx;obtain⟨nb,Y,ev,rfl,e2,n2,d2⟩:=Yn hy;rw[←n1] at bx;rw[←n2] at by_;rw[e1,e2,OA];cases na <;> cases nb
 ·exact Po dv ev X Y w d1 d2 bx by_
 ·exact Pp dv ev X Y w d1 d2 bx by_
 ·exact Ps dv ev X Y w d1 d2 bx by_
 ·exact Pt dv ev X Y w d1 d2 bx by_
theorem Xn {x:Nat} (h:jQ x):(decDigits x).length≤9000001:=by
 rw[decDigits_length]
 have h2:B9^xN=10^(9*xN):=by rw[QbY]
 have h3:10^(9*xN)≤10^(9*xN+1):=Qai (by decide) (by omega);have h4:=J9 (9*xN) x (by unfold jQ at h;rw[h2] at h;omega);have:=XZ;omega
theorem ZC {neg:Bool} {n:Nat} (h:neg=true→0<n):zH (sg neg n)=(if neg then [45] else [])++decDigits n:=by
 unfold zH;rw[K2]
 cases neg with
 | true=>
  have:=h rfl;rw[if_pos (by unfold sg;rw[if_pos rfl];omega),if_pos rfl]
 | false=>rw[if_neg (by unfold sg;rw[if_neg (by decide)];omega),if_neg (by decide)]
theorem WI (n:Nat):zH (sg false n)=decDigits n:=by rw[ZC (by simp)];rfl
theorem KV (x:Int) (d:Nat):(x:Rat)/((d:Int):Rat)=mkRat x d:=by
 rw[←Rat.divInt_eq_div];exact Rat.divInt_ofNat x d
theorem Yr {q:Nat} {w:World} {v:Value} (h:Dg w v q) (h0:0<q) (h9:q≠1):
  (∃A n c,v = .slice A n c∧((n:Int)==1)=false∧n≤140737488355328)∨(∃b off c,v = .slice (some ⟨b,off,none⟩) 1 c∧b<w.heap.size∧w.cell? ⟨b,off,none⟩=some (.int .i64 (q:Int))∧((q:Int)==1)=false):=by
 rcases Qae q B9 with hq | hq
 ·obtain⟨b,off,c,rfl,hb,hc⟩:=h.one h0 hq
  exact .inr ⟨b,off,c,rfl,hb,hc,by simpa using (by omega:¬(q:Int)=1)⟩
 ·obtain⟨p,A,c,rfl,e1,o1,n1,l1,l2,s1⟩:=h.open_
  refine .inl ⟨A,p.length,c,rfl,?_,l2⟩
  have:p.length≠1:=by
   intro hl;have h1:=qN o1;rw[hl,Qbc] at h1;omega
  simpa using (by omega:¬(p.length:Int)=1)
