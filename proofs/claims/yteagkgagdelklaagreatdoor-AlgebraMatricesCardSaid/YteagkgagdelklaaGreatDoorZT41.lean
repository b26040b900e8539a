/- Contracts: lists of lists of rational numbers are written. -/
import Derived.Test.YteagkgagdelklaaGreatDoorZT22
import Derived.Test.YteagkgagdelklaaGreatDoorZT23
import Derived.Test.YteagkgagdelklaaGreatDoorZT40
set_option maxRecDepth 100000
set_option maxHeartbeats 4000000
namespace Go.Proofs.YteagkgagdelklaaGreatDoor
open Go.RowKit Go.Lib
def Xe (w:World) (v:Value) (Ls:List (List Rat)):Prop:=
 ∃vs:List Value,jD w v vs∧vs.length=Ls.length ∧ ∀(i:Nat) (L:List Rat),Ls[i]? =some L → ∃b c es,vs[i]? =some (.slice (some ⟨b,0,none⟩) L.length c)∧L.length≤c∧jq w b es L
theorem zw.rowsAt {w:World} {base n:Nat} {v:Value} {B:List (Nat×List Rat)} (h:zw w base v B n) (hl:B.length≤1000000):Xe w v (B.map (·.2)):=by
 refine⟨_,x9 h.1 (by omega),by simp,fun i L hL=> ?_⟩;rw[Qao] at hL
 cases hb:B[i]? with
 | none=>rw[hb] at hL;cases hL
 | some x=>
  rw[hb] at hL;obtain rfl:=QaE hL;have:=h.2.2 x (Qab hb);obtain⟨es,he⟩:=this.2.1;exact⟨x.1,n,es,by rw[Qao,hb,QaC,this.2.2],by rw[this.2.2];exact Nat.le_refl _,he⟩
theorem AG:(Tryz.prog.info? 50).map (fun i=>(i.zero,i.size,i.bytes))=some (some (.slice none 0 0),1,24):=by kernel_rfl
theorem BC (w:World) (n:Nat) (hn:n≤1000000):(Instr.makeSlice 22 (.int .i64 (n:Int)) (.int .i64 (n:Int))).run Tryz.prog w = .ok (.slice (some ⟨w.heap.size,0,none⟩) n n) (w.alloc (.cells (List.replicate n jn).toArray 50)):=by
 have:=run_make_row' (P:=Tryz.prog) 22 50 jn 24 Tryz.underlying22 AG rfl .i64 .i64 n (by omega) (by omega) w;rw[JG] at this;exact this
structure yl (w wr:World) (g m:Nat) (Ls:List (List Rat)) (k:Nat) (B:List (Nat×List jl)):Prop where
 own:ja wr g 50 ((B.map fun r=>Value.slice (some ⟨r.1,0,none⟩) r.2.length r.2.length)++List.replicate (m-k) jn)
 rows:∀r∈B,w.heap.size≤r.1∧ja wr r.1 37 (jN r.2)∧r.2.length≤1000000
 vals:B.map (·.2)=(Ls.take k).map (·.map jh)
theorem yl.len {w wr:World} {g m k:Nat} {Ls:List (List Rat)} {B:List (Nat×List jl)} (h:yl w wr g m Ls k B) (hk:k≤Ls.length):B.length=k:=by
 have:=congrArg List.length h.vals;simp at this;omega
theorem yl.step {w wr w1:World} {g gn k:Nat} {Ls:List (List Rat)} {B:List (Nat×List jl)} {L:List Rat} (h:yl w wr g Ls.length Ls k B) (hk:Ls[k]? =some L) (hL:L.length≤1000000) (hb:Below wr.heap.size wr w1) (hg:w.heap.size≤gn) (hO:ja w1 gn 37 (jN (L.map jh))):
  yl w (w1.setCell ⟨g,k,none⟩ (.slice (some ⟨gn,0,none⟩) L.length L.length)) g Ls.length Ls (k+1) (B++[(gn,L.map jh)]):=by
 have hkl:k<Ls.length:=(List.getElem?_eq_some_iff.1 hk).1;have hB:=h.len (by omega);have hO1:=h.own.below hb h.own.lt
 have hne:∀(b:Nat) (cs:List Value),ja w1 b 37 cs→b≠g:=fun b cs h1 e=>by
  unfold ja at h1 hO1;rw[e,hO1] at h1
  injection h1 with h1
  injection h1 with _ h1
  exact absurd h1 (by decide)
 refine⟨?_,fun x hx=> ?_,?_⟩
 ·have:=hO1.put k (.slice (some ⟨gn,0,none⟩) L.length L.length)
  rw[QbN _ _ (by simp[hB]),show Ls.length-k=(Ls.length-(k+1))+1 by omega,Qa6,Qar,hB,QbE,Qaq] at this;rw[QaQ,QaV];simpa using this
 ·rcases List.mem_append.1 hx with hx | hx
  ·have:=h.rows x hx
   have h1:=this.2.1.below hb this.2.1.lt;exact⟨this.1,h1.other (p:=⟨g,k,none⟩) (hne _ _ h1) _,this.2.2⟩
  ·obtain rfl:=List.mem_singleton.1 hx
   exact⟨hg,hO.other (p:=⟨g,k,none⟩) (hne _ _ hO) _,by simpa using hL⟩
 ·rw[QaQ,h.vals,Qa5,hk,QaQ];rfl
def xV (Ls:List (List Rat)):Prop:=∀L∈Ls,∀q∈L,¬k8 q
def Ra (Ls:List (List Rat)) (w:World) (e:Ending) (w':World):Prop:=
 Below w.heap.size w w'∧((xV Ls ∧ ∃(g:Nat) (B:List (Nat×List jl)),e = .returned (.tuple #[.slice (some ⟨g,0,none⟩) Ls.length Ls.length,.int .i64 0])∧w.heap.size≤g∧yl w w' g Ls.length Ls Ls.length B)∨(¬xV Ls∧e = .returned (.tuple #[jn,.int .i64 4])))
theorem Ni (v:Value) (Ls:List (List Rat)) (w:World) (hv:Xe w v Ls) (hl:Ls.length≤1000000) (hL:∀L∈Ls,L.length≤1000000 ∧ ∀q∈L,kI q) (hG:jK w):
  Calls Tryz.prog 82 #[v,.func (.func 63) #[] #[]] w (Ra Ls w):=by
 obtain⟨vs,hs,hvl,hrow⟩:=hv;obtain⟨A,c,rfl,hc1,hc2,hcell⟩:=hs;have HROW:=hid hrow;have HC:=hid hcell;have HL:=hid hL;have HG:=hid hG;have Hvl:=hid hvl;rw[hvl] at hc1 hc2 ⊢;clear hrow hcell hL hG hvl;have hmk:=BC w Ls.length hl;have HO:=hid (ja.make w 50 (List.replicate Ls.length jn));go_enter Tryz.func82,Tryz.ntmps82
 go_wp2_with fail
 clear hmk
 go_loopg [15] Ls.length (fun gh i wr=>∃(k:Nat) (B:List (Nat×List jl)),i = .int .i64 k∧k+gh=Ls.length∧Hid (xV (Ls.take k))∧Hid (yl w wr w.heap.size Ls.length Ls k B)∧Hid (Below w.heap.size w wr))
 case atStart=>exact⟨0,[],rfl,by omega,hid (by unfold xV;simp),hid ⟨by simpa using HO.out,by simp,by simp⟩,hid ((Below.refl _ _).alloc (Nat.le_refl _) _)⟩
 case round=>
  clear HO;obtain⟨k,B,rfl,hk,hI,hT,hB⟩:=hrel
  cases gk with
  | zero=>
   have hkl:k=Ls.length:=by omega
   have hin:¬((k:Int)<(Ls.length:Int)):=by omega
   have HI:=hid (show xV Ls by have:=hI.out;rwa [hkl,Qad (Nat.le_refl _)] at this);rw[hkl] at hT;clear hkl hI hk
   go_wp2
   go_ret2;exact⟨hB.out,.inl ⟨HI.out,_,B,rfl,Nat.le_refl _,hT.out⟩⟩
  | succ gh=>
   have hlt:k<Ls.length:=by omega
   have hlt':(k:Int)<(Ls.length:Int):=by omega
   obtain⟨L,hL0⟩:∃L,Ls[k]? =some L:=⟨Ls[k],Qaa hlt⟩
   obtain⟨b,cb,es,hvk,hcb,hR⟩:=HROW.out k L hL0;obtain⟨b0,off,rfl,hbb,hcell⟩:=HC.out (by rw[Hvl.out];omega);have hck:=(hB.out.cell (p:=⟨b0,off+k,none⟩) hbb).trans ((hcell k (by rw[Hvl.out];exact hlt)).trans hvk);obtain⟨hL1,hL2⟩:=HL.out L (Qab hL0);have WR:=hid (Rb b L.length cb es L wr (hR.below hB.out) rfl hL1 hcb hL2 (HG.out.below hB.out))
   have hck2:=(hT.out.own.cell k).trans (show _=some jn by
    rw[QaH (by rw[Qar,hT.out.len (by omega)];exact Nat.le_refl _),Qar,hT.out.len (by omega),QbE,Qbk,if_pos (by omega)])
   have hfr:=hT.out.own.free k;have hol:=hT.out.own.lt;have Ht:Hid (Ls.take (k+1)=Ls.take k++[L]):=hid (by rw[Qa5,hL0];rfl);have Hm:=hid (Qab hL0);have HL0:=hid hL0;have Hk:=hid hk;clear hcell hL0 hk hvk hR hL2
   go_wp2_with fail
   refine WR.out.mono ?_;clear WR;rintro e w1 ⟨hB1,⟨hok,gn,rfl,hgn,hO1⟩ | ⟨hno,rfl⟩⟩
   ·have hck3:=(hB1.cell (p:=⟨w.heap.size,k,none⟩) hol).trans hck2
    have hfr3:=(hB1.frozen (p:=⟨w.heap.size,k,none⟩) hol).trans hfr;have hol3:w.heap.size<w1.heap.size:=Qac hol hB1.size
    have HI2:Hid (xV (Ls.take (k+1))):=hid (by
     rw[Ht.out];intro z hz;rcases List.mem_append.1 hz with h | h
     ·exact hI.out z h
     ·rw[List.mem_singleton.1 h];exact hok)
    have HT2:=hid (hT.out.step HL0.out hL1 hB1 (Qap hB.out.size hgn) hO1);have HB2:=hid ((hB.out.trans (hB1.mono hB.out.size)).setCell (p:=⟨w.heap.size,k,none⟩) (Nat.le_refl _) (.slice (some ⟨gn,0,none⟩) L.length L.length));clear hok hB1 hO1 hT hB hI hck2 hfr hck
    go_wp2
    go_roundg gh
    case rel=>exact⟨k+1,_,by go_num,by have:=Hk.out;omega,HI2,HT2,HB2⟩
    case measure=>omega
   ·have hck3:=(hB1.cell (p:=⟨w.heap.size,k,none⟩) hol).trans hck2
    have hfr3:=(hB1.frozen (p:=⟨w.heap.size,k,none⟩) hol).trans hfr;have hol3:w.heap.size<w1.heap.size:=Qac hol hB1.size;have HX:Hid (¬xV Ls):=hid (fun h=>by obtain⟨q,hq,hl⟩:=hno;exact h L Hm.out q hq hl);have HB2:=hid ((hB.out.trans (hB1.mono hB.out.size)).setCell (p:=⟨w.heap.size,k,none⟩) (Nat.le_refl _) jn);clear hno hB1 hT hB hI hck2 hfr hck
    go_wp2
    go_ret2;exact⟨HB2.out,.inr ⟨HX.out,rfl⟩⟩
theorem Rc (v:Value) (Ls:List (List Rat)) (w:World) (hv:Xe w v Ls) (hl:Ls.length≤1000000) (hL:∀L∈Ls,L.length≤1000000 ∧ ∀q∈L,kI q) (hG:jK w):
  Calls Tryz.prog 37 #[v] w (Ra Ls w):=by
 have CW:=hid (Ni v Ls w hv hl hL hG);obtain⟨vs,⟨A,c,rfl,_,_,_⟩,hvl,_⟩:=hv;rw[hvl] at CW ⊢;clear hL hG hvl;go_enter Tryz.func37,Tryz.ntmps37
 go_wp2_with fail
 refine CW.out.mono ?_;rintro e w1 ⟨hB1,⟨hok,g,B,rfl,hg,hO1⟩ | ⟨hno,rfl⟩⟩
 ·have HO:=hid hO1
  have HK:=hid hok;clear hO1 hok CW
  go_wp2
  go_ret2;exact⟨hB1,.inl ⟨HK.out,g,B,rfl,hg,HO.out⟩⟩
 ·have HK:=hid hno
  clear hno CW
  go_wp2
  go_ret2;exact⟨hB1,.inr ⟨HK.out,rfl⟩⟩
def yq (M:List (List Rat)) (b:List Rat):List (List Rat):=M.mapIdx fun i L=>L++[b[i]?.getD 0]
theorem AQ {M:List (List Rat)} {b:List Rat} {i:Nat} {L:List Rat} (h:M[i]? =some L):(yq M b)[i]? =some (L++[b[i]?.getD 0]):=by unfold yq;rw[Qaj,h];rfl
theorem AR (M:List (List Rat)) (b:List Rat):(yq M b).length=M.length:=by simp[yq]
def yP (S:jw Rat) (n k:Nat):List Rat:=(List.range k).foldl (fun l i=>l.set (S.cols[i]?.getD 0) (jC jc S.rows i n)) (List.replicate n 0)
theorem Ys (S:jw Rat) (n k:Nat):yP S n (k+1)=(yP S n k).set (S.cols[k]?.getD 0) (jC jc S.rows k n):=by unfold yP;rw[Qcj,List.foldl_append];rfl
theorem UH (S:jw Rat) (n k:Nat):(yP S n k).length=n:=by
 induction k with
 | zero=>simp[yP]
 | succ k ih=>rw[Ys,Qbz,ih]
theorem O4 {S Z:jw Rat} (h:ks S Z) (n k:Nat):yP S n k=yP Z n k:=by
 induction k with
 | zero=>rfl
 | succ k ih=>rw[Ys,Ys,ih,h.cols,Yb h.rows]
def UI (n:Nat) (M:List (List Rat)) (b:List Rat) (w:World) (e:Ending) (w':World):Prop:=
 Below w.heap.size w w'∧((n∈(j4 jc (n+1) (yq M b)).cols∧e = .returned (.tuple #[jn,.bool false])) ∨
  (n ∉ (j4 jc (n+1) (yq M b)).cols ∧ ∃g es,e = .returned (.tuple #[.slice (some ⟨g,0,none⟩) n n,.bool true])∧w.heap.size≤g∧jq w' g es (yP (j4 jc (n+1) (yq M b)) n (j4 jc (n+1) (yq M b)).cols.length)))
theorem O5 (g c n bR cR:Nat) (R:List js) (esR:List El) (b:List Rat) (w:World) (hM:j5 w g R n) (hc:R.length≤c) (hc2:c≤1000000) (hn:n≤999999) (h0:R=[]→n=0)
  (hb:jq w bR esR b) (hbl:b.length=R.length) (hcR:b.length≤cR) (hcR2:cR≤9223372036854775807) (hok:yA (n+1) (yq (jv R) b)):
  Calls Tryz.prog 62 #[.iface 77 (.agg #[]),.slice (some ⟨g,0,none⟩) R.length c,.slice (some ⟨bR,0,none⟩) R.length cR] w (UI n (jv R) b w):=by
 obtain⟨M,hMe⟩:∃M,M=yq (jv R) b:=⟨_,rfl⟩
 have hMl:M.length=R.length:=by rw[hMe,AR,yd]
 have HM:=hid hM;have HB:=hid hb;have HBl:=hid hbl;have HOK:Hid (yA (n+1) M):=hid (by rw[hMe];exact hok);have HME:=hid hMe;have HMl:=hid hMl;have hmk:=W7 w R.length (by omega)
 have WD:Hid (Calls Tryz.prog 64 #[.slice (some ⟨g,0,none⟩) R.length c] w fun e w'=>e = .returned (.int .i64 (n:Int))∧w=w'):=hid (by
  have h:=Q6 g c n R w hM;by_cases hR:R=[]
  ·rw[if_pos hR] at h;rw[h0 hR];exact h
  ·rw[if_neg hR] at h;exact h)
 have HS0:Hid (xn w (w.alloc (.cells (List.replicate R.length jn).toArray 72)) w.heap.size (n+1) M 0 []):=hid (by have:=xn.start w M (n+1);rw[hMl] at this;exact this)
 have hcRR:R.length≤cR:=by omega
 clear hM hb hbl hok hMe hMl hcR h0;go_enter Tryz.func62,Tryz.ntmps62
 go_wp2_with (go_at_call 64;refine WD.out.mono ?_;rintro e w' ⟨rfl,rfl⟩)
 clear hmk WD
 go_loopg [22] R.length (fun gh i wr=>∃(k:Nat) (J:List js),i = .int .i64 k∧k+gh=R.length∧Hid (xn w wr w.heap.size (n+1) M k J)∧Hid (Below w.heap.size w wr))
 case atStart=>exact⟨0,[],rfl,by omega,HS0,hid ((Below.refl _ _).alloc (Nat.le_refl _) _)⟩
 case round=>
  clear HS0;obtain⟨k,J,rfl,hk,hJ,hW⟩:=hrel
  cases gk with
  | succ gh=>
   have hlt:k<R.length:=by omega
   have hlt':(k:Int)<(R.length:Int):=by omega
   obtain⟨r,hr⟩:∃r,R[k]? =some r:=⟨R[k],Qaa hlt⟩
   have hMr:=HM.out.below hW.out;have hck:=hMr.cellRow hr;have hgl:=hMr.own.lt;obtain⟨⟨es,hro⟩,hrl,hrc1,hrc2⟩:=hMr.row _ (Qab hr);have hJl:=hJ.out.own.lt
   have hjk:=(hJ.out.own.cell k)
   rw[QaH (by rw[Qar,hJ.out.len (by rw[HMl.out];omega)];omega),Qar,hJ.out.len (by rw[HMl.out];omega),QbE,HMl.out,show R.length-k=(R.length-(k+1))+1 by omega,Qa6,Qbv] at hjk;have hjf:=hJ.out.own.free k;have HMk:Hid (M[k]? =some (r.2.2++[b[k]?.getD 0])):=hid (by rw[HME.out];exact AQ (by unfold jv;rw[Qao,hr];rfl));have Hk:=hid hk;have Hrl:=hid hrl
   have hal:∀o:Obj,Below wr.heap.size wr (wr.alloc o):=fun o=>(Below.refl _ _).alloc (Nat.le_refl _) _
   have CC:=hid (Na (wr.alloc (.cells #[.slice (some ⟨r.1,0,none⟩) n r.2.1,.slice (some ⟨bR,k*3,none⟩) 1 (cR-k)] 72)) wr.heap.size r.1 bR n 2 r.2.1 (cR-k) k es esR r.2.2 b (ja.make wr _ [.slice (some ⟨r.1,0,none⟩) n r.2.1,.slice (some ⟨bR,k*3,none⟩) 1 (cR-k)]) (hro.below (hal _)) hrl.symm (by omega) (Nat.le_refl _) ((HB.out.below hW.out).below (hal _)) (by rw[HBl.out];exact hlt));clear hk hr hro hrl hMr hal;obtain⟨kb,kc,kl⟩:=r;unfold jV at hck;dsimp only at hck hrc1 hrc2 CC HMk Hrl;generalize hx:kl++[b[k]?.getD 0]=X at *;have HXl:Hid (X.length=n+1):=hid (by rw[←hx,Qaf,Hrl.out];rfl);clear hx
   go_wp2_with fail
   refine CC.out.mono ?_;clear CC;rintro e w3 ⟨gn,cn,es3,rfl,hgn,hcn1,hcn2,hR3,hB3⟩;rw[HXl.out] at hcn1 ⊢;unfold maxLen at hcn2;have hB13:Below wr.heap.size wr w3:=((Below.refl wr.heap.size wr).alloc (Nat.le_refl _) _).trans (hB3.mono (by simp));have hjk3:=(hB13.cell (p:=⟨w.heap.size,k,none⟩) hJl).trans hjk;have hjf3:=(hB13.frozen (p:=⟨w.heap.size,k,none⟩) hJl).trans hjf;have hJl3:w.heap.size<w3.heap.size:=Qac hJl hB13.size;have HJ2:=hid (hJ.out.step (cn:=cn) HMk.out HXl.out hcn1 hcn2 hB13 (by simp at hgn;omega) (by have:=hW.out.size;simp at hgn;omega) hR3);have HW2:=hid ((hW.out.trans (hB13.mono hW.out.size)).setCell (p:=⟨w.heap.size,k,none⟩) (Nat.le_refl _) (.slice (some ⟨gn,0,none⟩) (n+1) cn));clear hR3 hB3 hB13 hJ hW hjk hjf hck
   go_wp2
   go_roundg gh
   case rel=>exact⟨k+1,_,by go_num,by have:=Hk.out;omega,HJ2,HW2⟩
   case measure=>omega
  | zero=>
   have hkR:k=R.length:=by omega
   have hin:¬((k:Int)<(R.length:Int)):=by omega
   have hJd:=(show xn w wr w.heap.size (n+1) M M.length J by have:=hJ.out;rw[hkR,←HMl.out] at this;exact this).done;have HJn:=hid hJ.out.new;have HJM:=hid hJd.1;have HJv:=hid hJd.2.1;have HJl:Hid (J.length=R.length):=hid (by rw[hJd.2.2,HMl.out])
   have EL:Hid (Calls Tryz.prog 38 #[.iface 77 (.agg #[]),.slice (some ⟨w.heap.size,0,none⟩) R.length R.length] wr (XM (n+1) w.heap.size R.length J wr)):=hid (by
    have h:=Qs w.heap.size R.length (n+1) J wr HJM.out (by rw[HJl.out];exact Nat.le_refl _) (by omega) (by omega) (HOK.out.rows HJv.out);rw[HJl.out] at h
    exact h)
   clear hJd hJ hk
   go_wp2_with fail
   refine EL.out.mono ?_;clear EL;rintro e w1 ⟨S,hS,cv,pv,rfl,hM1,hcv,hpv,hl1,hl2,hl3,hpm,hbs⟩;obtain⟨A1,k1,rfl,_,_⟩:=jX hcv;obtain⟨A2,k2,rfl,_,_⟩:=hpv.form;have HSame:Hid (ks S (j4 jc (n+1) M)):=hid (by rw[hS];exact J3 HJv.out _);have Hcl:Hid (∀c∈S.cols,c<n+1):=hid (by rw[hS];exact Zm _ _ _ (by omega) (by simp));have HM1:=hid hM1;have Hcv:=hid hcv;have Hl1:=hid hl1;have Hl2:=hid hl2;have Hl3:=hid (hl3.trans HJl.out)
   have HWB:Hid (Below w.heap.size w w1):=hid (hW.out.trans (hbs.toBelow (fun k hk=>by
    rcases List.mem_cons.1 hk with rfl | hk
    ·exact Nat.le_refl _
    ·obtain⟨r,hr,rfl⟩:=List.mem_map.1 hk
     exact HJn.out r hr) hW.out.size))
   clear hS hM1 hcv hpv hl1 hl2 hl3 hpm hbs hW HJn HJM HJv;have hofm:=Uj
   have hcl1:S.cols.length≤1000000:=by have:=Hl1.out;have:=Hl2.out;have:=Hl3.out;omega
   obtain⟨W0,hW0⟩:∃W0,W0=w1.alloc (.cells #[.slice (some ⟨w.heap.size,0,none⟩) S.piv.length R.length,.slice A1 S.cols.length k1,.slice A2 S.piv.length k2,.bool S.odd] 74):=⟨_,rfl⟩
   have hX:Hid (ja W0 w1.heap.size 74 [.slice (some ⟨w.heap.size,0,none⟩) S.piv.length R.length,.slice A1 S.cols.length k1,.slice A2 S.piv.length k2,.bool S.odd]):=hid (by rw[hW0];exact ja.make _ _ _)
   have ha:Below w1.heap.size w1 W0:=by rw[hW0];exact(Below.refl _ _).alloc (Nat.le_refl _) _
   have HM2:=hid (HM1.out.below ha);have Hcv2:=hid (kD Hcv.out ha);have HW0B:=hid (HWB.out.trans (ha.mono HWB.out.size));clear ha HM1 Hcv HWB
   go_wp2_with fail
   rw[←hW0];clear hW0;refine(Yd _).mono ?_;rintro e w2 ⟨zv,rfl,hzv,hB2⟩;obtain⟨zs,Z1,zn1,zc1,Z2,zn2,zc2,rfl⟩:=hzv.shape;have HF:=hid (Wj _ 0 _ n (by omega) hzv);clear hzv
   go_wp2_with fail
   refine HF.out.mono ?_;rintro e w3 ⟨gl,es3,rfl,hgl,hO3,hB3⟩;have HB3:=hid (hB2.trans (hB3.mono hB2.size));have hglW:W0.heap.size≤gl:=Qap hB2.size hgl;have HO3:Hid (∃es',jq w3 gl es' (yP S n 0)):=hid ⟨es3,hO3⟩;have hX3:=hX.out.below HB3.out hX.out.lt;obtain⟨x0,x1,x2,x3,y0,y1,y2,y3⟩:=hX3.four;have hXl:=hX.out.lt;clear hB2 hB3 hO3 HF hX3 hgl
   go_wp2_with fail
   clear x0 x1 x2 x3 y0 y1 y2 y3
   go_loopg [6,49] S.cols.length (fun gh2 sv ix wx=>∃i:Nat,ix = .int .i64 i∧sv = .slice (some ⟨gl,0,none⟩) n n∧i+gh2=S.cols.length∧Hid (Below W0.heap.size W0 wx)∧Hid (∃es',jq wx gl es' (yP S n i))∧Hid (∀j<i,S.cols[j]?.getD 0≠n))
   case atStart=>exact⟨0,rfl,rfl,by omega,HB3,HO3,hid (fun j hj=>by omega)⟩
   case round=>
    clear HB3 HO3;obtain⟨i,rfl,rfl,hi,hWx,hOx,hne⟩:=hrel
    cases gk with
    | zero=>
     have hin3:¬((i:Int)<(S.cols.length:Int)):=by omega
     have hnot:n ∉ (j4 jc (n+1) M).cols:=by
      rw[←HSame.out.cols];intro hm;obtain⟨j,hj⟩:=List.mem_iff_getElem?.1 hm;have hjl:=(List.getElem?_eq_some_iff.1 hj).1;exact hne.out j (by omega) (by rw[hj];rfl)
     have hOf:=hOx.out;rw[show i=S.cols.length by omega,O4 HSame.out,HSame.out.cols] at hOf;have HOf:=hid hOf;have Hnot:=hid hnot;clear hOf hnot hOx hne
     go_wp2
     go_ret2;unfold UI;rw[←HME.out];obtain⟨es',h'⟩:=HOf.out;exact⟨HW0B.out.trans (hWx.out.mono HW0B.out.size),.inr ⟨Hnot.out,gl,es',rfl,by have:=HW0B.out.size;omega,h'⟩⟩
    | succ gh2=>
     have hil:i<S.cols.length:=by omega
     have hil':(i:Int)<(S.cols.length:Int):=by omega
     have hilp:i<S.piv.length:=by have:=Hl1.out;omega
     obtain⟨cb,hA,_,hcbl,hcc⟩:=Jf (kD Hcv2.out hWx.out) (j:=i) hil;have c3:wr.cell? ⟨cb,i,none⟩=some (.int .i64 ((S.cols[i]?.getD 0:Nat):Int)):=(hcc i hil).trans (by simp[jm,hil]);have hci:S.cols[i]?.getD 0<n+1:=Hcl.out _ (by rw[Qaa hil];exact Qay hil);have Hsucc:=hid (Ys S n i);have Hi:=hid hi
     have Hne2:Hid (S.cols[i]?.getD 0≠n → ∀j<i+1,S.cols[j]?.getD 0≠n):=hid (fun h j hj=>by
      rcases Qae j i with hji | hji
      ·exact hne.out j hji
      ·rw[show j=i by omega];exact h)
     have Hmem:Hid (S.cols[i]?.getD 0=n→n∈(j4 jc (n+1) M).cols):=hid (fun h=>by
      rw[←HSame.out.cols,←h,Qaa hil];exact Qay hil)
     subst hA;clear hcc hi hne;generalize S.cols[i]?.getD 0=ci at *;by_cases hcn:ci=n
     ·have hcnB:((ci:Int)==(n:Int))=true:=by simp;omega
      have Hm:=hid (Hmem.out hcn);clear hcn Hmem Hne2 Hsucc hOx
      go_wp2
      go_ret2;unfold UI;rw[←HME.out];exact⟨HW0B.out.trans (hWx.out.mono HW0B.out.size),.inl ⟨Hm.out,rfl⟩⟩
     ·have hcnB:((ci:Int)==(n:Int))=false:=by simp;omega
      have hcin:ci<n:=by omega
      have hcin':(ci:Int)<(n:Int):=by omega
      have HN:=hid (Hne2.out hcn);clear hcn Hmem Hne2 hci
      obtain⟨r,hr⟩:∃r,S.rows[i]? =some r:=⟨S.rows[i]'(by have:=Hl2.out;omega),Qaa _⟩
      have hMb:=HM2.out.below hWx.out;have cc1:=hMb.cellRow hr;obtain⟨⟨esr,hrq⟩,hrl,hrc1,hrc2⟩:=hMb.row _ (Qab hr);obtain⟨er,R1,rn1,rc1,R2,rn2,rc2,zz0,her,hrt,d0,d1,d2,zz1,zz2,zz3⟩:=hrq.at_ (j:=n) (by rw[hrl];omega);clear zz0 zz1 zz2 zz3;obtain⟨er0,era,erb⟩:=er
      have her':era = .slice R1 rn1 rc1∧erb = .slice R2 rn2 rc2:=by simpa using her
      obtain⟨rfl,rfl⟩:=her';clear her;unfold qk at hrt;dsimp only at d0 hrt;have hgb:=hMb.own.lt;have hrbl:=hrq.own.lt;have Hy:Hid (jC jc S.rows i n=r.2.2[n]?.getD 0):=hid (by unfold jC;rw[qF hr];rfl);obtain⟨esx,hOx1⟩:=hOx.out;obtain⟨t4,T1,tn1,tc1,T2,tn2,tc2,zz0,ht4,zz1,c40,c41,c42,f40,f41,f42⟩:=hOx1.at_ (j:=ci) (by rw[UH];exact hcin);clear zz0 zz1;obtain⟨t40,t4a,t4b⟩:=t4
      have ht4':t4a = .slice T1 tn1 tc1∧t4b = .slice T2 tn2 tc2:=by simpa using ht4
      obtain⟨rfl,rfl⟩:=ht4';clear ht4;dsimp only at c40;have hgll:=hOx1.own.lt
      have HO7:Hid (∃es',jq (((wr.setCell ⟨gl,ci*3,none⟩ (.bool er0)).setCell ⟨gl,ci*3+1,none⟩ (.slice R1 rn1 rc1)).setCell ⟨gl,ci*3+2,none⟩ (.slice R2 rn2 rc2)) gl es' (yP S n (i+1))):=hid (by
       rw[Hsucc.out,Hy.out]
       exact⟨_,hOx1.put (j:=ci) (e:=(er0,.slice R1 rn1 rc1,.slice R2 rn2 rc2)) (by rw[UH];exact hcin) hrt⟩)
      have HW7:=hid (((hWx.out.setCell (p:=⟨gl,ci*3,none⟩) hglW (.bool er0)).setCell (p:=⟨gl,ci*3+1,none⟩) hglW (.slice R1 rn1 rc1)).setCell (p:=⟨gl,ci*3+2,none⟩) hglW (.slice R2 rn2 rc2));have hXw:=hX.out.below hWx.out hX.out.lt;obtain⟨x0,x1,x2,x3,y0,y1,y2,y3⟩:=hXw.four;obtain⟨rb,rc,rl⟩:=r;unfold jV at cc1;dsimp only at cc1 hrl hrc1 hrc2 hrbl d0 d1 d2;clear hr hMb hrq hrt Hy hOx1 hOx hXw hrl
      go_wp2
      go_roundg gh2
      case rel=>exact⟨i+1,by go_num,rfl,by have:=Hi.out;omega,HW7,HO7,HN⟩
      case measure=>omega
def qB (w:World) (base:Nat) (v:Value) (B:List js):Prop:=
 w.ownsRow base 72 1 v B.length (B.map fun r=>Value.slice (some ⟨r.1,0,none⟩) r.2.2.length r.2.1)∧kw w kx v ∧ ∀r∈B,(∃es,jq w r.1 es r.2.2)∧r.2.2.length≤r.2.1
theorem qB.below {w w':World} {base:Nat} {v:Value} {B:List js} (h:qB w base v B) (hb:Below w.heap.size w w'):qB w' base v B:=
 ⟨kD h.1 hb,xe h.2.1 h.1 hb,fun r hr=>⟨by obtain⟨es,he⟩:=(h.2.2 r hr).1;exact⟨es,he.below hb⟩,(h.2.2 r hr).2⟩⟩
theorem qB.keep {w w':World} {base:Nat} {v:Value} {B:List js} (h:qB w base v B) (hK:kv w w') (hv:∀k,v.ownBlock=some k→w'.heap[k]? =w.heap[k]?) (hk:∀r∈B,w'.heap[r.1]? =w.heap[r.1]?):qB w' base v B:=
 ⟨xt h.1 (fun k _ e=>hv k e),h.2.1.same hv,fun r hr=>⟨by obtain⟨es,he⟩:=(h.2.2 r hr).1;exact⟨es,he.keeps hK (hk r hr)⟩,(h.2.2 r hr).2⟩⟩
theorem qB.snoc {w w':World} {base:Nat} {v v':Value} {B:List js} {r:js} (h:qB w base v B) (hg:w.grownBy w' v.ownBlock) (hown:w'.ownsRow base 72 1 v' (B.length+1) (B.map (fun r=>Value.slice (some ⟨r.1,0,none⟩) r.2.2.length r.2.1)++[.slice (some ⟨r.1,0,none⟩) r.2.2.length r.2.1]))
  (hall:kw w' kx v') (hO:∃es,jq w r.1 es r.2.2) (hl:r.2.2.length≤r.2.1):qB w' base v' (B++[r]):=by
 have hK:=kv.grown hg h.1 h.2.1
 have hk:∀(k:Nat) (es:List El) (q:List Rat),jq w k es q→jq w' k es q:=fun k es q hq=>hq.keeps hK (hg.block k hq.own.lt (fun e=>Uc hq.own h.1 (by decide) e.symm))
 refine⟨by rw[QaQ,Qaf];exact hown,hall,fun x hx=> ?_⟩;rcases List.mem_append.1 hx with hx | hx
 ·have:=h.2.2 x hx
  obtain⟨es,he⟩:=this.1;exact⟨⟨es,hk _ _ _ he⟩,this.2⟩
 ·obtain rfl:=List.mem_singleton.1 hx
  obtain⟨es,he⟩:=hO;exact⟨⟨es,hk _ _ _ he⟩,hl⟩
theorem kQ.snoc {w w':World} {base:Nat} {v v':Value} {V:List Rat} {es:List El} (ho:w.ownsRow base 69 3 v V.length (jA es)) (hl:es.length=V.length) (ha0:kw w kx v) (hr:∀(i:Nat) (e:El) (q:Rat),es[i]? =some e→V[i]? =some q→Rt w (qk e) q)
  {e:El} {x:Rat} (hx:Rt w (qk e) x) (hown:w'.ownsRow base 69 3 v' (V.length+1) (jA es++J1 e)) (hall:kw w' kx v') (hg:w.grownBy w' v.ownBlock):kQ w' base v' (V++[x]):=by
 have hK:=kv.grown hg ho ha0;refine⟨es++[e],by rw[V0,Qaf];exact hown,by simp[hl],hall,fun i e' q he hq=> ?_⟩;rcases Qae i es.length with hi | hi
 ·rw[QaB hi] at he
  rw[QaB (by omega)] at hq;exact(hr i e' q he hq).keeps hK
 ·rw[QaH hi] at he
  rw[QaH (by omega)] at hq;rw[←hl] at hq
  have h0:i-es.length=0:=by
   rcases QaA (i-es.length) with h0 | h0
   ·exact h0
   ·rw[Qah (by simp;omega)] at he;cases he
  rw[h0] at he hq;simp at he hq;subst he hq;exact hx.keeps hK
theorem kQ.grown {w w':World} {base:Nat} {v:Value} {V:List Rat} {u:Value} {e:TypeId} {s n:Nat} {xs:List Value} {base':Nat} (h:kQ w base v V) (hg:w.grownBy w' u.ownBlock) (ho:w.ownsRow base' e s u n xs) (ha:kw w kx u) (hte:69≠e):kQ w' base v V:=by
 refine h.keep (kv.grown hg ho ha) fun k hk=>hg.block k (h.lt k hk).2 ?_
 obtain⟨es,hp,_⟩:=h
 exact fun e'=>QK hp ho hte k hk e'.symm
theorem qB.grown {w w':World} {base:Nat} {v:Value} {B:List js} {u:Value} {s n:Nat} {xs:List Value} {base':Nat} (h:qB w base v B) (hg:w.grownBy w' u.ownBlock) (ho:w.ownsRow base' 69 s u n xs) (ha:kw w kx u) (hB:∀r∈B,u.ownBlock≠some r.1):qB w' base v B:=by
 refine h.keep (kv.grown hg ho ha) (fun k hk=>hg.block k (h.1.lt k hk).2 (fun e'=>QK h.1 ho (by decide) k hk e'.symm)) (fun r hr=> ?_);obtain⟨es,he⟩:=(h.2.2 r hr).1;exact hg.block r.1 he.own.lt (fun e'=>hB r hr e'.symm)
def qu (M:List (List Rat)) (j:Nat):List Rat:=M.map fun L=>L[j]?.getD 0
def Nb (n:Nat) (M:List (List Rat)) (b:List Rat) (w:World) (e:Ending) (w':World):Prop:=
 ∃ev B sv,e = .returned (.tuple #[ev,sv])∧B.map (·.2.2)=(List.range n).map (qu M)++[b]∧qB w' w.heap.size ev B∧kQ w' w.heap.size sv (List.replicate n 0++[1])∧Below w.heap.size w w'
theorem CH (w:World):Calls Tryz.prog 46 #[.int .i64 0] w (qR 0 w):=by simpa using KX 0 w (by omega) (by omega)
theorem CJ (w:World):Calls Tryz.prog 46 #[.int .i64 1] w (qR 1 w):=by simpa using KX 1 w (by omega) (by omega)
theorem Nc (g c n bR cR:Nat) (R:List js) (esR:List El) (b:List Rat) (w:World) (hM:j5 w g R n) (hc2:R.length≤1000000) (hn:n≤999999) (h0:R=[]→n=0)
  (hb:jq w bR esR b) (hbl:b.length=R.length) (hcR:b.length≤cR):
  Calls Tryz.prog 69 #[.slice (some ⟨g,0,none⟩) R.length c,.slice (some ⟨bR,0,none⟩) R.length cR] w (Nb n (jv R) b w):=by
 have HM:=hid hM;have HB:=hid hb;have HBl:=hid hbl;have HcR:=hid hcR
 have WD:Hid (Calls Tryz.prog 64 #[.slice (some ⟨g,0,none⟩) R.length c] w fun e w'=>e = .returned (.int .i64 (n:Int))∧w=w'):=hid (by
  have h:=Q6 g c n R w hM;by_cases hR:R=[]
  ·rw[if_pos hR] at h;rw[h0 hR];exact h
  ·rw[if_neg hR] at h;exact h)
 clear hM hb hbl hcR h0;obtain⟨i0,hi0,hz0,hz1,hz2⟩:=info_parts Ww;obtain⟨j0,hj0,hw0,hw1,hw2⟩:=info_parts Qv;go_enter Tryz.func69,Tryz.ntmps69
 go_wp2_with (go_at_call 64;refine WD.out.mono ?_;rintro e w' ⟨rfl,rfl⟩)
 clear WD
 go_loopg [4,5,12] n (fun gh ev sv jx wr=>∃(j:Nat) (B:List js),jx = .int .i64 j∧j+gh=n∧B.length=j∧Hid (B.map (·.2.2)=(List.range j).map (qu (jv R)))∧Hid (∀r∈B,∃cs,ja wr r.1 69 cs∧w.heap.size≤r.1∧sv.ownBlock≠some r.1)∧Hid (qB wr w.heap.size ev B)∧Hid (kQ wr w.heap.size sv (List.replicate j 0))∧Hid (Below w.heap.size w wr))
 case atStart=>exact⟨0,[],rfl,by omega,rfl,hid rfl,hid (by simp),hid ⟨World.ownsRow_nil _ _ _ _,kw.nil _ _,by simp⟩,hid ⟨[],World.ownsRow_nil _ _ _ _,rfl,kw.nil _ _,fun i e q h=>by simp at h⟩,hid (Below.refl _ _)⟩
 case round=>
  obtain⟨j,B,rfl,hj,hBl,hBv,hBo,hE,hS,hW⟩:=hrel;obtain⟨A4,c4,hev,_,_⟩:=jX hE.out.1;obtain⟨A5,c5,hsv,_,_⟩:=hS.out.form;rw[Qa8] at hsv;rw[hBl] at hev;subst hev hsv;have hal:Hid (∀o:Obj,Below wr.heap.size wr (wr.alloc o)):=hid (fun o=>(Below.refl _ _).alloc (Nat.le_refl _) _);have hww:=hW.out.size
  cases gk with
  | zero=>
   have hin:¬((j:Int)<(n:Int)):=by omega
   have hjn:j=n:=by omega
   subst hjn;have hcb:b.length≤cR:=HcR.out;rw[←HBl.out];have HB2:=hid (HB.out.below hW.out);have hBR:bR<w.heap.size:=HB.out.own.lt;have hE1:=hE.out.1;rw[hBl] at hE1;have HE1:=hid hE1;have HBL:=hid hBl;clear hE1 hBl hj
   go_wp2_with (at_builtin;(refine Qa _ (o:=⟨some 45,_,_,_,_,_⟩) rfl _ _ 63 rfl w.heap.size 72 i0 (.slice none 0 0) 1 24 Tryz.underlying63 hi0 hz0 hz1 hz2 rfl (by decide) _ _ _ rfl (HE1.out.alloc _) ⟨wr.heap.size,0,none⟩ 1 1 [.slice (some ⟨bR,0,none⟩) b.length cR] rfl rfl (cell_one_new _ _ _) (fun x hx=>by simp at hx;subst hx;rfl) (by unfold maxLen;omega) (by omega) (by simp;omega) (by decide) kx (xe hE.out.2.1 HE1.out (hal.out _)) (ZW _ _ _) UY ?_;intro v7 w7 hown7 hgrow7 hall7))
   have hg7:(wr.alloc (.cells #[.slice (some ⟨bR,0,none⟩) b.length cR] 72)).grownBy w7 (Value.slice A4 j c4).ownBlock:=hgrow7;have HE7:Hid (qB w7 w.heap.size v7 (B++[(bR,cR,b)])):=hid ((hE.out.below (hal.out _)).snoc (r:=(bR,cR,b)) hg7 (by rw[HBL.out];exact hown7) hall7 ⟨esR,HB2.out.below (hal.out _)⟩ hcb);have HS7:=hid ((hS.out.below (hal.out (.cells #[.slice (some ⟨bR,0,none⟩) b.length cR] 72))).grown hg7 (kD HE1.out (hal.out _)) (xe hE.out.2.1 HE1.out (hal.out _)) (by decide));have HW7:Hid (Below w.heap.size w w7):=hid (Below.grown (hW.out.alloc hww _) hg7 (by simp;omega) (fun k hk=>(HE1.out.lt k hk).1))
   have HNE:Hid (∀r∈B++[((bR,cR,b):js)],(Value.slice A5 j c5).ownBlock≠some r.1):=hid (fun r hr=>by
    rcases List.mem_append.1 hr with hr | hr
    ·obtain⟨_,_,_,h⟩:=hBo.out r hr;exact h
    ·obtain rfl:=List.mem_singleton.1 hr
     intro e;have:=(hS.out.lt _ e).1;dsimp only at this
     omega)
   have HVals:Hid ((B++[((bR,cR,b):js)]).map (·.2.2)=(List.range j).map (qu (jv R))++[b]):=hid (by rw[QaQ,hBv.out];rfl);clear hown7 hgrow7 hg7 hall7 hE hS hBo hBv hW hal HE1;generalize B++[((bR,cR,b):js)]=B7 at *;refine(CJ _).mono ?_;rintro e w8 ⟨ov,rfl,hov,hB8⟩;obtain⟨os,O1,on1,oc1,O2,on2,oc2,rfl⟩:=hov.shape;have HE8:=hid (HE7.out.below hB8);have HW8:=hid (HW7.out.trans (hB8.mono HW7.out.size));have hS8:=HS7.out.below hB8;obtain⟨esS,ho8,hl8,ha8,hr8⟩:=hS8;have ho8':=ho8;rw[Qa8] at ho8';have Ho8:=hid ho8';have Ho8l:=hid ho8;have Hl8:=hid hl8;have Ha8:=hid ha8;have Hr8:=hid hr8;have Hov:=hid hov;have hal8:Hid (∀o:Obj,Below w8.heap.size w8 (w8.alloc o)):=hid (fun o=>(Below.refl _ _).alloc (Nat.le_refl _) _);have hw8:=HW8.out.size;clear HE7 HS7 HW7 hB8 ho8 ho8' hl8 ha8 hr8 hov
   go_wp2_with (at_builtin;(refine Qa _ (o:=⟨some 49,_,_,_,_,_⟩) rfl _ _ 72 rfl w.heap.size 69 j0 yN 3 56 Tryz.underlying72 hj0 hw0 hw1 hw2 rfl (by decide) _ _ _ rfl (Ho8.out.alloc _) ⟨w8.heap.size,0,none⟩ 1 1 [.bool os,.slice O1 on1 oc1,.slice O2 on2 oc2] rfl rfl (Y2 _ _ _ _ _) (QH _ _ _ _ _ _ _) (by unfold maxLen;omega) (by omega) (by simp;omega) (by decide) kx (xe Ha8.out Ho8.out (hal8.out _)) (ZV _ _ _ _ _ _ _) UX ?_;intro v9 w9 hown9 hgrow9 hall9))
   have hg9:(w8.alloc (.cells #[.bool os,.slice O1 on1 oc1,.slice O2 on2 oc2] 69)).grownBy w9 (Value.slice A5 j c5).ownBlock:=hgrow9;have HS9:Hid (kQ w9 w.heap.size v9 (List.replicate j 0++[1])):=hid (kQ.snoc (e:=(os,.slice O1 on1 oc1,.slice O2 on2 oc2)) (kD Ho8l.out (hal8.out _)) Hl8.out (xe Ha8.out Ho8.out (hal8.out _)) (fun i e q h1 h2=>(Hr8.out i e q h1 h2).below (hal8.out _)) (Hov.out.below (hal8.out _)) (by rw[Qa8];exact hown9) hall9 hg9);have HE9:Hid (qB w9 w.heap.size v7 B7):=hid ((HE8.out.below (hal8.out _)).grown hg9 (kD Ho8.out (hal8.out _)) (xe Ha8.out Ho8.out (hal8.out _)) HNE.out);have HW9:Hid (Below w.heap.size w w9):=hid (Below.grown (HW8.out.alloc hw8 _) hg9 (by simp;omega) (fun k hk=>(Ho8.out.lt k hk).1));clear hown9 hgrow9 hg9 hall9;go_ret2;exact⟨v7,B7,v9,rfl,HVals.out,HE9.out,HS9.out,HW9.out⟩
  | succ gh=>
   have hlt:j<n:=by omega
   have hlt':(j:Int)<(n:Int):=by omega
   have hmk:=ZG wr kf R.length hc2
   have HO:Hid (jq (wr.alloc (.cells (kM kf R.length 0).toArray 69)) wr.heap.size (List.replicate R.length kf) ((qu (jv R) j).take 0)):=hid (by
    refine⟨?_,by simp,fun e he=> ?_,fun i e q h1 h2=>by simp at h2⟩
    ·have:=ja.make wr 69 (kM kf R.length 0)
     rw[show kM kf R.length 0=jA (List.replicate R.length kf) by simp[kM]] at this ⊢;exact this
    ·rw[QaU he];exact⟨jr _ _ _,jr _ _ _⟩)
   have HCl:Hid ((qu (jv R) j).length=R.length):=hid (by unfold qu;rw[Qar,yd]);have Hj:=hid hj;clear hj
   go_wp2_with fail
   clear hmk
   obtain⟨wb,rfl⟩:∃wb,wb=wr:=⟨_,rfl⟩
   go_loopg [20] R.length (fun gh2 ix wx=>∃(i:Nat) (es:List El),ix = .int .i64 i∧i+gh2=R.length∧Hid (jq wx wb.heap.size es ((qu (jv R) j).take i))∧Hid (es.length=R.length)∧Hid (Below wb.heap.size wb wx))
   case atStart=>exact⟨0,_,rfl,by omega,HO,hid (by simp),hid ((Below.refl _ _).alloc (Nat.le_refl _) _)⟩
   case round=>
    clear HO;obtain⟨i,es,rfl,hi,hO,hEl,hWx⟩:=hrel
    cases gk with
    | succ gh2=>
     have hil:i<R.length:=by omega
     have hil':(i:Int)<(R.length:Int):=by omega
     obtain⟨r,hr⟩:∃r,R[i]? =some r:=⟨R[i],Qaa hil⟩
     have hMx:=HM.out.below (hW.out.trans (hWx.out.mono hww));have cc1:=hMx.cellRow hr;have hgl:=hMx.own.lt;obtain⟨⟨esr,hrq⟩,hrl,hrc1,hrc2⟩:=hMx.row _ (Qab hr);obtain⟨er,R1,rn1,rc1,R2,rn2,rc2,zz0,her,hrt,d0,d1,d2,zz1,zz2,zz3⟩:=hrq.at_ (j:=j) (by rw[hrl];exact hlt);clear zz0 zz1 zz2 zz3;obtain⟨er0,era,erb⟩:=er
     have her':era = .slice R1 rn1 rc1∧erb = .slice R2 rn2 rc2:=by simpa using her
     obtain⟨rfl,rfl⟩:=her';clear her;unfold qk at hrt;dsimp only at d0 hrt;have hrbl:=hrq.own.lt
     have hql:((qu (jv R) j).take i).length=i:=by rw[Qak,HCl.out];omega
     have hies:i<es.length:=by rw[hEl.out];exact hil
     obtain⟨x0,x1,x2,k0,k1,k2,f0,f1,f2⟩:=hO.out.raw hies;have hbl:=hO.out.own.lt
     have HV:Hid ((qu (jv R) j).take (i+1)=(qu (jv R) j).take i++[r.2.2[j]?.getD 0]):=hid (by
      rw[Qa5];unfold qu jv
      rw[Qao,Qao,hr];rfl)
     have HO2:Hid (jq (((wr.setCell ⟨wb.heap.size,i*3,none⟩ (.bool er0)).setCell ⟨wb.heap.size,i*3+1,none⟩ (.slice R1 rn1 rc1)).setCell ⟨wb.heap.size,i*3+2,none⟩ (.slice R2 rn2 rc2)) wb.heap.size (es.set i (er0,.slice R1 rn1 rc1,.slice R2 rn2 rc2)) ((qu (jv R) j).take (i+1))):=hid (by
      have:=hO.out.push (e:=(er0,.slice R1 rn1 rc1,.slice R2 rn2 rc2)) (q:=r.2.2[j]?.getD 0) (by rw[hql];exact hies) hrt;rw[hql,←HV.out] at this
      exact this)
     have HW2:=hid (((hWx.out.setCell (p:=⟨wb.heap.size,i*3,none⟩) (Nat.le_refl _) (.bool er0)).setCell (p:=⟨wb.heap.size,i*3+1,none⟩) (Nat.le_refl _) (.slice R1 rn1 rc1)).setCell (p:=⟨wb.heap.size,i*3+2,none⟩) (Nat.le_refl _) (.slice R2 rn2 rc2));have HL2:Hid ((es.set i (er0,.slice R1 rn1 rc1,.slice R2 rn2 rc2)).length=R.length):=hid (by rw[Qbz];exact hEl.out);generalize es.set i (er0,.slice R1 rn1 rc1,.slice R2 rn2 rc2)=es2 at *;have Hi:=hid hi;obtain⟨rb,rc,rl⟩:=r;unfold jV at cc1;dsimp only at cc1 hrl hrc1 hrc2 hrbl d0 d1 d2;clear hr hMx hrq hrt hO hEl hWx HV hi hql hies hrl
     go_wp2
     go_roundg gh2
     case rel=>exact⟨i+1,es2,by go_num,by have:=Hi.out;omega,HO2,HL2,HW2⟩
     case measure=>omega
    | zero=>
     have hin2:¬((i:Int)<(R.length:Int)):=by omega
     have HO':Hid (jq wr wb.heap.size es (qu (jv R) j)):=hid (by
      have:=hO.out
      rwa [show i=(qu (jv R) j).length by rw[HCl.out];omega,List.take_length] at this)
     have HW1:=hid (hW.out.trans (hWx.out.mono hww));have HE0:=hid (hE.out.below hWx.out);have HS0:=hid (hS.out.below hWx.out);have hE1:=HE0.out.1;rw[hBl] at hE1;have HE1:=hid hE1;have HBL:=hid hBl;have hww1:=HW1.out.size;have halr:Hid (∀o:Obj,Below wr.heap.size wr (wr.alloc o)):=hid (fun o=>(Below.refl _ _).alloc (Nat.le_refl _) _);have HBo:Hid (∀r∈B,w.heap.size≤r.1∧r.1<wb.heap.size∧(Value.slice A5 j c5).ownBlock≠some r.1):=hid (fun r hr=>by obtain⟨cs,h1,h2,h3⟩:=hBo.out r hr;exact⟨h2,h1.lt,h3⟩);have HSl:Hid (∀k,(Value.slice A5 j c5).ownBlock=some k→k<wb.heap.size):=hid (fun k hk=>(hS.out.lt k hk).2);have hwbl:wb.heap.size<wr.heap.size:=HO'.out.own.lt;clear hO hEl hi hE hS hWx hE1 hBl hBo hal
     go_wp2_with (at_builtin;(refine Qa _ (o:=⟨some 36,_,_,_,_,_⟩) rfl _ _ 63 rfl w.heap.size 72 i0 (.slice none 0 0) 1 24 Tryz.underlying63 hi0 hz0 hz1 hz2 rfl (by decide) _ _ _ rfl (HE1.out.alloc _) ⟨wr.heap.size,0,none⟩ 1 1 [.slice (some ⟨wb.heap.size,0,none⟩) R.length R.length] rfl rfl (cell_one_new _ _ _) (fun x hx=>by simp at hx;subst hx;rfl) (by unfold maxLen;omega) (by omega) (by simp;omega) (by decide) kx (xe HE0.out.2.1 HE1.out (halr.out _)) (ZW _ _ _) UY ?_;intro v7 w7 hown7 hgrow7 hall7))
     have hg7:(wr.alloc (.cells #[.slice (some ⟨wb.heap.size,0,none⟩) R.length R.length] 72)).grownBy w7 (Value.slice A4 j c4).ownBlock:=hgrow7;have HE7:Hid (qB w7 w.heap.size v7 (B++[(wb.heap.size,R.length,qu (jv R) j)])):=hid ((HE0.out.below (halr.out _)).snoc (r:=(wb.heap.size,R.length,qu (jv R) j)) hg7 (by rw[HBL.out];dsimp only;rw[HCl.out];exact hown7) hall7 ⟨es,HO'.out.below (halr.out _)⟩ (by dsimp only;rw[HCl.out];exact Nat.le_refl _));have HS7:=hid ((HS0.out.below (halr.out (.cells #[.slice (some ⟨wb.heap.size,0,none⟩) R.length R.length] 72))).grown hg7 (kD HE1.out (halr.out _)) (xe HE0.out.2.1 HE1.out (halr.out _)) (by decide));have HW7:Hid (Below w.heap.size w w7):=hid (Below.grown (HW1.out.alloc hww1 _) hg7 (by simp;omega) (fun k hk=>(HE1.out.lt k hk).1))
     have HBo7:Hid (∀r∈B++[((wb.heap.size,R.length,qu (jv R) j):js)],w.heap.size≤r.1∧r.1≤wb.heap.size∧(Value.slice A5 j c5).ownBlock≠some r.1):=hid (fun r hr=>by
      rcases List.mem_append.1 hr with hr | hr
      ·have:=HBo.out r hr;exact⟨this.1,Qbo this.2.1,this.2.2⟩
      ·obtain rfl:=List.mem_singleton.1 hr
       exact⟨hww,Nat.le_refl _,fun e=>by have:=HSl.out _ e;dsimp only at this;omega⟩)
     have HBv7:Hid ((B++[((wb.heap.size,R.length,qu (jv R) j):js)]).map (·.2.2)=(List.range (j+1)).map (qu (jv R))):=hid (by rw[QaQ,hBv.out,Qcj,QaQ];rfl);have HBl7:Hid ((B++[((wb.heap.size,R.length,qu (jv R) j):js)]).length=j+1):=hid (by rw[Qaf,HBL.out];rfl)
     have hw7b:wb.heap.size<w7.heap.size:=by have:=hg7.size;simp at this;omega
     obtain⟨A7,c7,hv7,_,_⟩:=jX hown7;subst hv7;clear hown7 hgrow7 hg7 hall7 HE0 HS0 HW1 HE1 HO' HBo hBv hW;generalize B++[((wb.heap.size,R.length,qu (jv R) j):js)]=B7 at *
     go_wp2_with fail
     refine(CH _).mono ?_;rintro e w8 ⟨ov,rfl,hov,hB8⟩;obtain⟨os,O1,on1,oc1,O2,on2,oc2,rfl⟩:=hov.shape;have HE8:=hid (HE7.out.below hB8);have HW8:=hid (HW7.out.trans (hB8.mono HW7.out.size));have hw8b:wb.heap.size<w8.heap.size:=Qac hw7b hB8.size;have hS8:=HS7.out.below hB8;obtain⟨esS,ho8,hl8,ha8,hr8⟩:=hS8;have ho8':=ho8;rw[Qa8] at ho8';have Ho8:=hid ho8';have Ho8l:=hid ho8;have Hl8:=hid hl8;have Ha8:=hid ha8;have Hr8:=hid hr8;have Hov:=hid hov;have hal8:Hid (∀o:Obj,Below w8.heap.size w8 (w8.alloc o)):=hid (fun o=>(Below.refl _ _).alloc (Nat.le_refl _) _);have hw8:=HW8.out.size;clear HE7 HS7 HW7 hB8 ho8 ho8' hl8 ha8 hr8 hov
     go_wp2_with (at_builtin;(refine P0 _ (o:=⟨some 40,_,_,_,_,_⟩) rfl _ _ 72 rfl w.heap.size 69 j0 yN 3 56 Tryz.underlying72 hj0 hw0 hw1 hw2 rfl (by decide) _ _ _ rfl (Ho8.out.alloc _) ⟨w8.heap.size,0,none⟩ 1 1 [.bool os,.slice O1 on1 oc1,.slice O2 on2 oc2] rfl rfl (Y2 _ _ _ _ _) (QH _ _ _ _ _ _ _) (by unfold maxLen;omega) (by omega) (by simp;omega) (by decide) kx (xe Ha8.out Ho8.out (hal8.out _)) (ZV _ _ _ _ _ _ _) UX ?_;intro v9 w9 hown9 hgrow9 hall9 hat9))
     have hg9:(w8.alloc (.cells #[.bool os,.slice O1 on1 oc1,.slice O2 on2 oc2] 69)).grownBy w9 (Value.slice A5 j c5).ownBlock:=hgrow9;have hat9':v9.ownBlock=(Value.slice A5 j c5).ownBlock∨v9.ownBlock=some (w8.heap.size+1):=hat9.imp id (fun h=>h.trans (congrArg some (Array.size_push _)))
     have HS9:Hid (kQ w9 w.heap.size v9 (List.replicate (j+1) 0)):=hid (by
      rw[List.replicate_succ']
      exact kQ.snoc (e:=(os,.slice O1 on1 oc1,.slice O2 on2 oc2)) (kD Ho8l.out (hal8.out _)) Hl8.out (xe Ha8.out Ho8.out (hal8.out _)) (fun i e q h1 h2=>(Hr8.out i e q h1 h2).below (hal8.out _)) (Hov.out.below (hal8.out _)) (by rw[Qa8];exact hown9) hall9 hg9)
     have HE9:Hid (qB w9 w.heap.size (Value.slice A7 (j+1) c7) B7):=hid ((HE8.out.below (hal8.out _)).grown hg9 (kD Ho8.out (hal8.out _)) (xe Ha8.out Ho8.out (hal8.out _)) (fun r hr=>(HBo7.out r hr).2.2));have HW9:Hid (Below w.heap.size w w9):=hid (Below.grown (HW8.out.alloc hw8 _) hg9 (by simp;omega) (fun k hk=>(Ho8.out.lt k hk).1))
     have HBo9:Hid (∀r∈B7,∃cs,ja w9 r.1 69 cs∧w.heap.size≤r.1∧v9.ownBlock≠some r.1):=hid (fun r hr=>by
      obtain⟨es',he⟩:=(HE9.out.2.2 r hr).1;refine⟨_,he.own,(HBo7.out r hr).1,fun e=> ?_⟩;have h7:=HBo7.out r hr;rcases hat9' with h | h
      ·exact h7.2.2 (h ▸ e)
      ·rw[h] at e
       have:w8.heap.size+1=r.1:=QaE e
       omega)
     clear hown9 hgrow9 hg9 hall9 hat9 hat9' HE8 HW8 Ho8 Ho8l Hl8 Ha8 Hr8 Hov
     go_wp2
     go_roundg gh
     case rel=>exact⟨j+1,B7,by go_num,by have:=Hj.out;omega,HBl7.out,HBv7,HBo9,HE9,HS9,HW9⟩
     case measure=>omega
def ze (n:Nat) (M:List (List Rat)):List (List Rat):=nsBasis jc 0 1 n (j4 jc n (M.map List.reverse)) n
def ji {α:Type} (M:List (List α)):Nat:=(M[0]?.map (·.length)).getD 0
theorem kI.neg0 {y:Rat} (h:kI y):kI (0-y):=by
 rw[Rat.sub_eq_add_neg,Rat.zero_add];exact⟨by rw[Rat.neg_num,Qb4];exact h.1,by rw[Rat.neg_den];exact h.2⟩
theorem Zw:kI 0:=⟨.small (by decide),.small (by decide)⟩
theorem DQ:kI 1:=⟨.small (by decide),.small (by decide)⟩
theorem xm.num {S:jw Rat} (h:xm S) (i j:Nat):kI (jC jc S.rows i j):=by
 unfold jC jL
 cases hr:S.rows[i]? with
 | none=>exact Zw
 | some r=>
  simp only[QaC,Qbl]
  cases hx:r.2.2[j]? with
  | none=>exact Zw
  | some x=>exact h r (Qab hr) x (Qab hx)
theorem xm.nsSet {S:jw Rat} (h:xm S) (col k:Nat) (L:List Rat) (hL:∀q∈L,kI q):∀q∈nsSet jc 0 S col k L,kI q:=by
 induction k with
 | zero=>exact hL
 | succ k ih=>
  intro q hq;rw[Jd] at hq;rcases QaN hq with hq | rfl
  ·exact ih q hq
  ·exact(h.num k col).neg0
theorem xm.basis {S:jw Rat} (h:xm S) (n k:Nat):∀L∈nsBasis jc 0 1 n S k,L.length=n ∧ ∀q∈L,kI q:=by
 induction k with
 | zero=>simp[nsBasis]
 | succ k ih=>
  intro L hL;unfold nsBasis at hL;rcases List.mem_append.1 hL with hL | hL
  ·exact ih L hL
  ·split at hL
   ·cases hL
   ·obtain rfl:=List.mem_singleton.1 hL
    unfold x8;refine⟨by rw[QbD,yL];simp,fun q hq=> ?_⟩;refine h.nsSet _ _ _ (fun z hz=> ?_) q (List.mem_reverse.1 hq);rcases QaN hz with hz | rfl
    ·rw[QaU hz];exact Zw
    ·exact DQ
theorem xm.same {S Z:jw Rat} (h:ks S Z) (hz:xm Z):xm S:=by
 intro r hr x hx;have h1:r.2.2∈jv S.rows:=Qa1 hr;rw[h.rows] at h1;obtain⟨q,hq,he⟩:=List.mem_map.1 h1;exact hz q hq x (by rw[he];exact hx)
theorem yl.mono {w w0 wr:World} {g m k:Nat} {Ls:List (List Rat)} {B:List (Nat×List jl)} (h:yl w wr g m Ls k B) (hw:w0.heap.size≤w.heap.size):yl w0 wr g m Ls k B:=
 ⟨h.own,fun r hr=>⟨Qap hw (h.rows r hr).1,(h.rows r hr).2⟩,h.vals⟩
theorem J8 {M:List (List jl)} (h:jG M=0):M.length≤256∧ji M≤256:=by
 unfold jG at h;split at h
 ·cases h
 ·refine⟨by omega,?_⟩
  cases M with
  | nil=>simp[ji]
  | cons a t=>
   simp only[Qbv,QaC,Qbl,xE] at h;split at h
   ·cases h
   ·simp[ji];omega
def ZP (Ls:List (List Rat)) (w:World) (e:Ending) (w':World):Prop:=
 (xV Ls ∧ ∃(g:Nat) (B:List (Nat×List jl)),e = .returned (.tuple #[.slice (some ⟨g,0,none⟩) Ls.length Ls.length,.int .i64 0])∧w.heap.size≤g∧yl w w' g Ls.length Ls Ls.length B)∨(¬xV Ls∧e = .returned (.tuple #[jn,.int .i64 4]))
def Be (M:List (List jl)) (w:World) (e:Ending) (w':World):Prop:=
 Below w.heap.size w w'∧((jG M=0∧ZP (ze (ji M) (M.map jg)) w e w')∨(jG M≠0∧e = .returned (.tuple #[jn,.int .i64 (jG M)])))
def YN (n:Nat) (M:List (List Rat)):Prop:=yA n (M.map List.reverse)∧xm (j4 jc n (M.map List.reverse))
theorem YO (v:Value) (M:List (List jl)) (w:World) (hv:jT w v M) (hT:∀r∈M,∀l∈r,xd l) (hG:jK w) (hok:jG M=0→YN (ji M) (M.map jg)):
  Calls Tryz.prog 9 #[v] w (Be M w):=by
 have RR:=hid (KZ v M w hv hT hG);obtain⟨A,c,rfl,_,_⟩:=hv.form;have HOK:=hid hok;have HG:=hid hG;clear hv hT hG hok;go_enter Tryz.func9,Tryz.ntmps9
 go_wp2_with fail
 refine RR.out.mono ?_;clear RR;rintro e w1 ⟨hB1,⟨hM,g,R,rfl,hg,hnew,hmx,hvals⟩ | ⟨hM,rfl⟩⟩
 ·change j5 w1 g R (ji M) at hmx
  obtain⟨hm1,hn1⟩:=J8 hM;have HM:=hid hM;obtain⟨hok1,hok2⟩:=HOK.out hM
  have hRl:R.length=M.length:=by rw[←yd R,hvals];simp
  have hv2:jv (km List.reverse R R.length)=(M.map jg).map List.reverse:=by rw[Gd,hvals]
  have hE:=hok1.rows hv2;rw[Qz] at hE
  have hS:ks (jy jc (ji M) R.length 0 ⟨km List.reverse R R.length,[],[],false⟩) (j4 jc (ji M) ((M.map jg).map List.reverse)):=by
   have:=J3 (F:=jc) hv2 (ji M)
   rwa [Qz] at this
  have hF:=xm.same hS hok2
  have NS:=hid (Cz g M.length (ji M) R w1 hmx (by omega) (by omega) (by omega) (fun h=>by
   have:M=[]:=List.length_eq_zero_iff.1 (by rw[←hRl,h];rfl)
   subst this;rfl) hE hF)
  rw[hRl] at NS;have HS:=hid hS;have HF:=hid hok2
  have Hbl:Hid (∀k∈g::R.map (·.1),w.heap.size≤k):=hid (fun k hk=>by
   rcases List.mem_cons.1 hk with rfl | hk
   ·exact hg
   ·obtain⟨r,hr,rfl⟩:=List.mem_map.1 hk;exact hnew r hr)
  have Hvals:=hid hvals;have HB1:=hid hB1;clear hmx hnew hvals hok1 hok2 hE hF hS hv2 hM hB1 hRl hg HOK
  go_wp2_with fail
  refine NS.out.mono ?_;clear NS;rintro e w2 ⟨v2,B,rfl,hBv,hTb,hbs⟩
  have hker:B.map (·.2)=ze (ji M) (M.map jg):=by rw[hBv,HS.out.nsBasis];rfl
  have hBl:B.length≤ji M:=by
   have h1:=congrArg List.length hBv;have h2:=Z0 jc (0:Rat) 1 (ji M) (jy jc (ji M) R.length 0 ⟨km List.reverse R R.length,[],[],false⟩) (ji M);rw[Qar] at h1;omega
  have hRA:=hTb.rowsAt (by omega);rw[hker] at hRA;have hB2:Below w.heap.size w w2:=HB1.out.trans (hbs.toBelow Hbl.out HB1.out.size);have hkb:=HF.out.basis (ji M) (ji M);have WR:=hid (Rc v2 (ze (ji M) (M.map jg)) w2 hRA (by rw[←hker,Qar];omega) (fun L hL=>⟨by have:=(hkb L hL).1;omega,(hkb L hL).2⟩) (HG.out.below hB2));have HB2:=hid hB2;obtain⟨A9,k9,rfl,_,_⟩:=jX hTb.1;clear hBv hTb hbs hker hRA hkb hB2;generalize hKe:ze (ji M) (M.map jg)=K at *;have HKe:=hid hKe;clear hKe
  go_wp2_with fail
  refine WR.out.mono ?_;clear WR;rintro e w3 ⟨hB3,⟨hsh,g3,B3,rfl,hg3,hT3⟩ | ⟨hsh,rfl⟩⟩
  ·have HX:=hid hsh
   have HT3:=hid hT3;have HB3:=hid (HB2.out.trans (hB3.mono HB2.out.size));have hgg:w.heap.size≤g3:=Qap HB2.out.size hg3;clear hsh hT3 hB3
   go_wp2
   go_ret2;exact⟨HB3.out,.inl ⟨HM.out,by rw[HKe.out];exact .inl ⟨HX.out,g3,B3,rfl,hgg,HT3.out.mono HB2.out.size⟩⟩⟩
  ·have HX:=hid hsh
   have HB3:=hid (HB2.out.trans (hB3.mono HB2.out.size));clear hsh hB3
   go_wp2
   go_ret2;exact⟨HB3.out,.inl ⟨HM.out,by rw[HKe.out];exact .inr ⟨HX.out,rfl⟩⟩⟩
 ·have HX:=hid hM
  have hne:(jG M != 0)=true:=by simpa using hM
  clear HOK hM;generalize hec:jG M=ec at *;have HEC:=hid hec;clear hec
  go_wp2
  go_ret2;exact⟨hB1,.inr ⟨by rw[HEC.out];exact HX.out,by rw[HEC.out];rfl⟩⟩
