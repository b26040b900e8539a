/- Contracts: lists of lists of rational numbers are written. -/
import Derived.Test.YtneafcdfnhnpnaaGreatDoorZD25
import Derived.Test.YtneafcdfnhnpnaaGreatDoorZD27
import Derived.Test.YtneafcdfnhnpnaaGreatDoorZD43
set_option maxRecDepth 100000
set_option maxHeartbeats 4000000
namespace Go.Proofs.YtneafcdfnhnpnaaGreatDoor
open Go.RowKit Go.Lib
def XZ (w:World) (v:Value) (Ls:List (List Rat)):Prop:=
 ∃vs:List Value,jB w v vs∧vs.length=Ls.length ∧ ∀(i:Nat) (L:List Rat),Ls[i]? =some L → ∃b c es,vs[i]? =some (.slice (some ⟨b,0,none⟩) L.length c)∧L.length≤c∧jp w b es L
theorem yV.rowsAt {w:World} {base n:Nat} {v:Value} {B:List (Nat×List Rat)} (h:yV w base v B n) (hl:B.length≤1000000):XZ w v (B.map (·.2)):=by
 refine⟨_,zE h.1 (by omega),by simp,fun i L hL=> ?_⟩;rw[List.getElem?_map] at hL
 cases hb:B[i]? with
 | none=>rw[hb] at hL;cases hL
 | some x=>
  rw[hb] at hL;obtain rfl:=Option.some.inj hL;have:=h.2.2 x (List.mem_of_getElem? hb);obtain⟨es,he⟩:=this.2.1;exact⟨x.1,n,es,by rw[List.getElem?_map,hb,Option.map_some,this.2.2],by rw[this.2.2];exact Nat.le_refl _,he⟩
theorem Db:(Tryz.prog.info? 85).map (fun i=>(i.zero,i.size,i.bytes))=some (some (.slice none 0 0),1,24):=by kernel_rfl
theorem DM (w:World) (n:Nat) (hn:n≤1000000):(Instr.makeSlice 74 (.int .i64 (n:Int)) (.int .i64 (n:Int))).run Tryz.prog w = .ok (.slice (some ⟨w.heap.size,0,none⟩) n n) (w.alloc (.cells (List.replicate n jm).toArray 85)):=by
 have:=run_make_row' (P:=Tryz.prog) 74 85 jm 24 Tryz.underlying74 Db rfl .i64 .i64 n (by omega) (by omega) w;rw[zY] at this;exact this
structure yD (w wr:World) (g m:Nat) (Ls:List (List Rat)) (k:Nat) (B:List (Nat×List jn)):Prop where
 own:ja wr g 85 ((B.map fun r=>Value.slice (some ⟨r.1,0,none⟩) r.2.length r.2.length)++List.replicate (m-k) jm)
 rows:∀r∈B,w.heap.size≤r.1∧ja wr r.1 22 (jO r.2)∧r.2.length≤1000000
 vals:B.map (·.2)=(Ls.take k).map (·.map jg)
theorem yD.len {w wr:World} {g m k:Nat} {Ls:List (List Rat)} {B:List (Nat×List jn)} (h:yD w wr g m Ls k B) (hk:k≤Ls.length):B.length=k:=by
 have:=congrArg List.length h.vals;simp at this;omega
theorem yD.step {w wr w1:World} {g gn k:Nat} {Ls:List (List Rat)} {B:List (Nat×List jn)} {L:List Rat} (h:yD w wr g Ls.length Ls k B) (hk:Ls[k]? =some L) (hL:L.length≤1000000) (hb:Below wr.heap.size wr w1) (hg:w.heap.size≤gn) (hO:ja w1 gn 22 (jO (L.map jg))):
  yD w (w1.setCell ⟨g,k,none⟩ (.slice (some ⟨gn,0,none⟩) L.length L.length)) g Ls.length Ls (k+1) (B++[(gn,L.map jg)]):=by
 have hkl:k<Ls.length:=(List.getElem?_eq_some_iff.1 hk).1;have hB:=h.len (by omega);have hO1:=h.own.below hb h.own.lt
 have hne:∀(b:Nat) (cs:List Value),ja w1 b 22 cs→b≠g:=fun b cs h1 e=>by
  unfold ja at h1 hO1;rw[e,hO1] at h1
  injection h1 with h1
  injection h1 with _ h1
  exact absurd h1 (by decide)
 refine⟨?_,fun x hx=> ?_,?_⟩
 ·have:=hO1.put k (.slice (some ⟨gn,0,none⟩) L.length L.length)
  rw[List.set_append_right _ _ (by simp[hB]),show Ls.length-k=(Ls.length-(k+1))+1 by omega,List.replicate_succ,List.length_map,hB,Nat.sub_self,List.set_cons_zero] at this;rw[List.map_append,List.append_assoc];simpa using this
 ·rcases List.mem_append.1 hx with hx | hx
  ·have:=h.rows x hx
   have h1:=this.2.1.below hb this.2.1.lt;exact⟨this.1,h1.other (p:=⟨g,k,none⟩) (hne _ _ h1) _,this.2.2⟩
  ·obtain rfl:=List.mem_singleton.1 hx
   exact⟨hg,hO.other (p:=⟨g,k,none⟩) (hne _ _ hO) _,by simpa using hL⟩
 ·rw[List.map_append,h.vals,List.take_add_one,hk,List.map_append];rfl
def yR (Ls:List (List Rat)):Prop:=∀L∈Ls,∀q∈L,¬kR q
def Mv (Ls:List (List Rat)) (w:World) (e:Ending) (w':World):Prop:=
 Below w.heap.size w w'∧((yR Ls ∧ ∃(g:Nat) (B:List (Nat×List jn)),e = .returned (.tuple #[.slice (some ⟨g,0,none⟩) Ls.length Ls.length,.int .i64 0])∧w.heap.size≤g∧yD w w' g Ls.length Ls Ls.length B)∨(¬yR Ls∧e = .returned (.tuple #[jm,.int .i64 4])))
theorem Sj (v:Value) (Ls:List (List Rat)) (w:World) (hv:XZ w v Ls) (hl:Ls.length≤1000000) (hL:∀L∈Ls,L.length≤1000000 ∧ ∀q∈L,kv q) (hG:jN w):
  Calls Tryz.prog 200 #[v,.func (.func 155) #[] #[]] w (Mv Ls w):=by
 obtain⟨vs,hs,hvl,hrow⟩:=hv;obtain⟨A,c,rfl,hc1,hc2,hcell⟩:=hs;have HROW:=hid hrow;have HC:=hid hcell;have HL:=hid hL;have HG:=hid hG;have Hvl:=hid hvl;rw[hvl] at hc1 hc2 ⊢;clear hrow hcell hL hG hvl;have hmk:=DM w Ls.length hl;have HO:=hid (ja.make w 85 (List.replicate Ls.length jm));go_enter Tryz.func200,Tryz.ntmps200
 go_wp2_with fail
 clear hmk
 go_loopg [15] Ls.length (fun gh i wr=>∃(k:Nat) (B:List (Nat×List jn)),i = .int .i64 k∧k+gh=Ls.length∧Hid (yR (Ls.take k))∧Hid (yD w wr w.heap.size Ls.length Ls k B)∧Hid (Below w.heap.size w wr))
 case atStart=>exact⟨0,[],rfl,by omega,hid (by unfold yR;simp),hid ⟨by simpa using HO.out,by simp,by simp⟩,hid ((Below.refl _ _).alloc (Nat.le_refl _) _)⟩
 case round=>
  clear HO;obtain⟨k,B,rfl,hk,hI,hT,hB⟩:=hrel
  cases gk with
  | zero=>
   have hkl:k=Ls.length:=by omega
   have hin:¬((k:Int)<(Ls.length:Int)):=by omega
   have HI:=hid (show yR Ls by have:=hI.out;rwa [hkl,List.take_of_length_le (Nat.le_refl _)] at this);rw[hkl] at hT;clear hkl hI hk
   go_wp2
   go_ret2;exact⟨hB.out,.inl ⟨HI.out,_,B,rfl,Nat.le_refl _,hT.out⟩⟩
  | succ gh=>
   have hlt:k<Ls.length:=by omega
   have hlt':(k:Int)<(Ls.length:Int):=by omega
   obtain⟨L,hL0⟩:∃L,Ls[k]? =some L:=⟨Ls[k],List.getElem?_eq_getElem hlt⟩
   obtain⟨b,cb,es,hvk,hcb,hR⟩:=HROW.out k L hL0;obtain⟨b0,off,rfl,hbb,hcell⟩:=HC.out (by rw[Hvl.out];omega);have hck:=(hB.out.cell (p:=⟨b0,off+k,none⟩) hbb).trans ((hcell k (by rw[Hvl.out];exact hlt)).trans hvk);obtain⟨hL1,hL2⟩:=HL.out L (List.mem_of_getElem? hL0);have WR:=hid (Mw b L.length cb es L wr (hR.below hB.out) rfl hL1 hcb hL2 (HG.out.below hB.out))
   have hck2:=(hT.out.own.cell k).trans (show _=some jm by
    rw[List.getElem?_append_right (by rw[List.length_map,hT.out.len (by omega)];exact Nat.le_refl _),List.length_map,hT.out.len (by omega),Nat.sub_self,List.getElem?_replicate,if_pos (by omega)])
   have hfr:=hT.out.own.free k;have hol:=hT.out.own.lt;have Ht:Hid (Ls.take (k+1)=Ls.take k++[L]):=hid (by rw[List.take_add_one,hL0];rfl);have Hm:=hid (List.mem_of_getElem? hL0);have HL0:=hid hL0;have Hk:=hid hk;clear hcell hL0 hk hvk hR hL2
   go_wp2_with fail
   refine WR.out.mono ?_;clear WR;rintro e w1 ⟨hB1,⟨hok,gn,rfl,hgn,hO1⟩ | ⟨hno,rfl⟩⟩
   ·have hck3:=(hB1.cell (p:=⟨w.heap.size,k,none⟩) hol).trans hck2
    have hfr3:=(hB1.frozen (p:=⟨w.heap.size,k,none⟩) hol).trans hfr;have hol3:w.heap.size<w1.heap.size:=Nat.lt_of_lt_of_le hol hB1.size
    have HI2:Hid (yR (Ls.take (k+1))):=hid (by
     rw[Ht.out];intro z hz;rcases List.mem_append.1 hz with h | h
     ·exact hI.out z h
     ·rw[List.mem_singleton.1 h];exact hok)
    have HT2:=hid (hT.out.step HL0.out hL1 hB1 (Nat.le_trans hB.out.size hgn) hO1);have HB2:=hid ((hB.out.trans (hB1.mono hB.out.size)).setCell (p:=⟨w.heap.size,k,none⟩) (Nat.le_refl _) (.slice (some ⟨gn,0,none⟩) L.length L.length));clear hok hB1 hO1 hT hB hI hck2 hfr hck
    go_wp2
    go_roundg gh
    case rel=>exact⟨k+1,_,by go_num,by have:=Hk.out;omega,HI2,HT2,HB2⟩
    case measure=>omega
   ·have hck3:=(hB1.cell (p:=⟨w.heap.size,k,none⟩) hol).trans hck2
    have hfr3:=(hB1.frozen (p:=⟨w.heap.size,k,none⟩) hol).trans hfr;have hol3:w.heap.size<w1.heap.size:=Nat.lt_of_lt_of_le hol hB1.size;have HX:Hid (¬yR Ls):=hid (fun h=>by obtain⟨q,hq,hl⟩:=hno;exact h L Hm.out q hq hl);have HB2:=hid ((hB.out.trans (hB1.mono hB.out.size)).setCell (p:=⟨w.heap.size,k,none⟩) (Nat.le_refl _) jm);clear hno hB1 hT hB hI hck2 hfr hck
    go_wp2
    go_ret2;exact⟨HB2.out,.inr ⟨HX.out,rfl⟩⟩
theorem LN (v:Value) (Ls:List (List Rat)) (w:World) (hv:XZ w v Ls) (hl:Ls.length≤1000000) (hL:∀L∈Ls,L.length≤1000000 ∧ ∀q∈L,kv q) (hG:jN w):
  Calls Tryz.prog 146 #[v] w (Mv Ls w):=by
 have CW:=hid (Sj v Ls w hv hl hL hG);obtain⟨vs,⟨A,c,rfl,_,_,_⟩,hvl,_⟩:=hv;rw[hvl] at CW ⊢;clear hL hG hvl;go_enter Tryz.func146,Tryz.ntmps146
 go_wp2_with fail
 refine CW.out.mono ?_;rintro e w1 ⟨hB1,⟨hok,g,B,rfl,hg,hO1⟩ | ⟨hno,rfl⟩⟩
 ·have HO:=hid hO1
  have HK:=hid hok;clear hO1 hok CW
  go_wp2
  go_ret2;exact⟨hB1,.inl ⟨HK.out,g,B,rfl,hg,HO.out⟩⟩
 ·have HK:=hid hno
  clear hno CW
  go_wp2
  go_ret2;exact⟨hB1,.inr ⟨HK.out,rfl⟩⟩
def xW (M:List (List Rat)) (b:List Rat):List (List Rat):=M.mapIdx fun i L=>L++[b[i]?.getD 0]
theorem Dj {M:List (List Rat)} {b:List Rat} {i:Nat} {L:List Rat} (h:M[i]? =some L):(xW M b)[i]? =some (L++[b[i]?.getD 0]):=by unfold xW;rw[List.getElem?_mapIdx,h];rfl
theorem Dk (M:List (List Rat)) (b:List Rat):(xW M b).length=M.length:=by simp[xW]
def yj (S:jz Rat) (n k:Nat):List Rat:=(List.range k).foldl (fun l i=>l.set (S.cols[i]?.getD 0) (jI jd S.rows i n)) (List.replicate n 0)
theorem XD (S:jz Rat) (n k:Nat):yj S n (k+1)=(yj S n k).set (S.cols[k]?.getD 0) (jI jd S.rows k n):=by unfold yj;rw[List.range_succ,List.foldl_append];rfl
theorem ZF (S:jz Rat) (n k:Nat):(yj S n k).length=n:=by
 induction k with
 | zero=>simp[yj]
 | succ k ih=>rw[XD,List.length_set,ih]
theorem FP {S Z:jz Rat} (h:kw S Z) (n k:Nat):yj S n k=yj Z n k:=by
 induction k with
 | zero=>rfl
 | succ k ih=>rw[XD,XD,ih,h.cols,Xk h.rows]
def ZG (n:Nat) (M:List (List Rat)) (b:List Rat) (w:World) (e:Ending) (w':World):Prop:=
 Below w.heap.size w w'∧((n∈(ko jd (n+1) (xW M b)).cols∧e = .returned (.tuple #[jm,.bool false])) ∨
  (n ∉ (ko jd (n+1) (xW M b)).cols ∧ ∃g es,e = .returned (.tuple #[.slice (some ⟨g,0,none⟩) n n,.bool true])∧w.heap.size≤g∧jp w' g es (yj (ko jd (n+1) (xW M b)) n (ko jd (n+1) (xW M b)).cols.length)))
theorem FQ (g c n bR cR:Nat) (R:List jr) (esR:List El) (b:List Rat) (w:World) (hM:j8 w g R n) (hc:R.length≤c) (hc2:c≤1000000) (hn:n≤999999) (h0:R=[]→n=0)
  (hb:jp w bR esR b) (hbl:b.length=R.length) (hcR:b.length≤cR) (hcR2:cR≤9223372036854775807) (hok:yS (n+1) (xW (ju R) b)):
  Calls Tryz.prog 154 #[.iface 172 (.agg #[]),.slice (some ⟨g,0,none⟩) R.length c,.slice (some ⟨bR,0,none⟩) R.length cR] w (ZG n (ju R) b w):=by
 obtain⟨M,hMe⟩:∃M,M=xW (ju R) b:=⟨_,rfl⟩
 have hMl:M.length=R.length:=by rw[hMe,Dk,yl]
 have HM:=hid hM;have HB:=hid hb;have HBl:=hid hbl;have HOK:Hid (yS (n+1) M):=hid (by rw[hMe];exact hok);have HME:=hid hMe;have HMl:=hid hMl;have hmk:=VP w R.length (by omega)
 have WD:Hid (Calls Tryz.prog 159 #[.slice (some ⟨g,0,none⟩) R.length c] w fun e w'=>e = .returned (.int .i64 (n:Int))∧w=w'):=hid (by
  have h:=Qp g c n R w hM;by_cases hR:R=[]
  ·rw[if_pos hR] at h;rw[h0 hR];exact h
  ·rw[if_neg hR] at h;exact h)
 have HS0:Hid (qW w (w.alloc (.cells (List.replicate R.length jm).toArray 167)) w.heap.size (n+1) M 0 []):=hid (by have:=qW.start w M (n+1);rw[hMl] at this;exact this)
 have hcRR:R.length≤cR:=by omega
 clear hM hb hbl hok hMe hMl hcR h0;go_enter Tryz.func154,Tryz.ntmps154
 go_wp2_with (go_at_call 159;refine WD.out.mono ?_;rintro e w' ⟨rfl,rfl⟩)
 clear hmk WD
 go_loopg [22] R.length (fun gh i wr=>∃(k:Nat) (J:List jr),i = .int .i64 k∧k+gh=R.length∧Hid (qW w wr w.heap.size (n+1) M k J)∧Hid (Below w.heap.size w wr))
 case atStart=>exact⟨0,[],rfl,by omega,HS0,hid ((Below.refl _ _).alloc (Nat.le_refl _) _)⟩
 case round=>
  clear HS0;obtain⟨k,J,rfl,hk,hJ,hW⟩:=hrel
  cases gk with
  | succ gh=>
   have hlt:k<R.length:=by omega
   have hlt':(k:Int)<(R.length:Int):=by omega
   obtain⟨r,hr⟩:∃r,R[k]? =some r:=⟨R[k],List.getElem?_eq_getElem hlt⟩
   have hMr:=HM.out.below hW.out;have hck:=hMr.cellRow hr;have hgl:=hMr.own.lt;obtain⟨⟨es,hro⟩,hrl,hrc1,hrc2⟩:=hMr.row _ (List.mem_of_getElem? hr);have hJl:=hJ.out.own.lt
   have hjk:=(hJ.out.own.cell k)
   rw[List.getElem?_append_right (by rw[List.length_map,hJ.out.len (by rw[HMl.out];omega)];omega),List.length_map,hJ.out.len (by rw[HMl.out];omega),Nat.sub_self,HMl.out,show R.length-k=(R.length-(k+1))+1 by omega,List.replicate_succ,List.getElem?_cons_zero] at hjk;have hjf:=hJ.out.own.free k;have HMk:Hid (M[k]? =some (r.2.2++[b[k]?.getD 0])):=hid (by rw[HME.out];exact Dj (by unfold ju;rw[List.getElem?_map,hr];rfl));have Hk:=hid hk;have Hrl:=hid hrl
   have hal:∀o:Obj,Below wr.heap.size wr (wr.alloc o):=fun o=>(Below.refl _ _).alloc (Nat.le_refl _) _
   have CC:=hid (Sd (wr.alloc (.cells #[.slice (some ⟨r.1,0,none⟩) n r.2.1,.slice (some ⟨bR,k*3,none⟩) 1 (cR-k)] 167)) wr.heap.size r.1 bR n 2 r.2.1 (cR-k) k es esR r.2.2 b (ja.make wr _ [.slice (some ⟨r.1,0,none⟩) n r.2.1,.slice (some ⟨bR,k*3,none⟩) 1 (cR-k)]) (hro.below (hal _)) hrl.symm (by omega) (Nat.le_refl _) ((HB.out.below hW.out).below (hal _)) (by rw[HBl.out];exact hlt));clear hk hr hro hrl hMr hal;obtain⟨kb,kc,kl⟩:=r;unfold jZ at hck;dsimp only at hck hrc1 hrc2 CC HMk Hrl;generalize hx:kl++[b[k]?.getD 0]=X at *;have HXl:Hid (X.length=n+1):=hid (by rw[←hx,List.length_append,Hrl.out];rfl);clear hx
   go_wp2_with fail
   refine CC.out.mono ?_;clear CC;rintro e w3 ⟨gn,cn,es3,rfl,hgn,hcn1,hcn2,hR3,hB3⟩;rw[HXl.out] at hcn1 ⊢;unfold maxLen at hcn2;have hB13:Below wr.heap.size wr w3:=((Below.refl wr.heap.size wr).alloc (Nat.le_refl _) _).trans (hB3.mono (by simp));have hjk3:=(hB13.cell (p:=⟨w.heap.size,k,none⟩) hJl).trans hjk;have hjf3:=(hB13.frozen (p:=⟨w.heap.size,k,none⟩) hJl).trans hjf;have hJl3:w.heap.size<w3.heap.size:=Nat.lt_of_lt_of_le hJl hB13.size;have HJ2:=hid (hJ.out.step (cn:=cn) HMk.out HXl.out hcn1 hcn2 hB13 (by simp at hgn;omega) (by have:=hW.out.size;simp at hgn;omega) hR3);have HW2:=hid ((hW.out.trans (hB13.mono hW.out.size)).setCell (p:=⟨w.heap.size,k,none⟩) (Nat.le_refl _) (.slice (some ⟨gn,0,none⟩) (n+1) cn));clear hR3 hB3 hB13 hJ hW hjk hjf hck
   go_wp2
   go_roundg gh
   case rel=>exact⟨k+1,_,by go_num,by have:=Hk.out;omega,HJ2,HW2⟩
   case measure=>omega
  | zero=>
   have hkR:k=R.length:=by omega
   have hin:¬((k:Int)<(R.length:Int)):=by omega
   have hJd:=(show qW w wr w.heap.size (n+1) M M.length J by have:=hJ.out;rw[hkR,←HMl.out] at this;exact this).done;have HJn:=hid hJ.out.new;have HJM:=hid hJd.1;have HJv:=hid hJd.2.1;have HJl:Hid (J.length=R.length):=hid (by rw[hJd.2.2,HMl.out])
   have EL:Hid (Calls Tryz.prog 147 #[.iface 172 (.agg #[]),.slice (some ⟨w.heap.size,0,none⟩) R.length R.length] wr (Q0 (n+1) w.heap.size R.length J wr)):=hid (by
    have h:=YI w.heap.size R.length (n+1) J wr HJM.out (by rw[HJl.out];exact Nat.le_refl _) (by omega) (by omega) (HOK.out.rows HJv.out);rw[HJl.out] at h
    exact h)
   clear hJd hJ hk
   go_wp2_with fail
   refine EL.out.mono ?_;clear EL;rintro e w1 ⟨S,hS,cv,pv,rfl,hM1,hcv,hpv,hl1,hl2,hl3,hpm,hbs⟩;obtain⟨A1,k1,rfl,_,_⟩:=j7 hcv;obtain⟨A2,k2,rfl,_,_⟩:=hpv.form;have HSame:Hid (kw S (ko jd (n+1) M)):=hid (by rw[hS];exact J2 HJv.out _);have Hcl:Hid (∀c∈S.cols,c<n+1):=hid (by rw[hS];exact YC _ _ _ (by omega) (by simp));have HM1:=hid hM1;have Hcv:=hid hcv;have Hl1:=hid hl1;have Hl2:=hid hl2;have Hl3:=hid (hl3.trans HJl.out)
   have HWB:Hid (Below w.heap.size w w1):=hid (hW.out.trans (hbs.toBelow (fun k hk=>by
    rcases List.mem_cons.1 hk with rfl | hk
    ·exact Nat.le_refl _
    ·obtain⟨r,hr,rfl⟩:=List.mem_map.1 hk
     exact HJn.out r hr) hW.out.size))
   clear hS hM1 hcv hpv hl1 hl2 hl3 hpm hbs hW HJn HJM HJv;have hofm:=Zn
   have hcl1:S.cols.length≤1000000:=by have:=Hl1.out;have:=Hl2.out;have:=Hl3.out;omega
   obtain⟨W0,hW0⟩:∃W0,W0=w1.alloc (.cells #[.slice (some ⟨w.heap.size,0,none⟩) S.piv.length R.length,.slice A1 S.cols.length k1,.slice A2 S.piv.length k2,.bool S.odd] 169):=⟨_,rfl⟩
   have hX:Hid (ja W0 w1.heap.size 169 [.slice (some ⟨w.heap.size,0,none⟩) S.piv.length R.length,.slice A1 S.cols.length k1,.slice A2 S.piv.length k2,.bool S.odd]):=hid (by rw[hW0];exact ja.make _ _ _)
   have ha:Below w1.heap.size w1 W0:=by rw[hW0];exact(Below.refl _ _).alloc (Nat.le_refl _) _
   have HM2:=hid (HM1.out.below ha);have Hcv2:=hid (kB Hcv.out ha);have HW0B:=hid (HWB.out.trans (ha.mono HWB.out.size));clear ha HM1 Hcv HWB
   go_wp2_with fail
   rw[←hW0];clear hW0;refine(Xm _).mono ?_;rintro e w2 ⟨zv,rfl,hzv,hB2⟩;obtain⟨zs,Z1,zn1,zc1,Z2,zn2,zc2,rfl⟩:=hzv.shape;have HF:=hid (Vk _ 0 _ n (by omega) hzv);clear hzv
   go_wp2_with fail
   refine HF.out.mono ?_;rintro e w3 ⟨gl,es3,rfl,hgl,hO3,hB3⟩;have HB3:=hid (hB2.trans (hB3.mono hB2.size));have hglW:W0.heap.size≤gl:=Nat.le_trans hB2.size hgl;have HO3:Hid (∃es',jp w3 gl es' (yj S n 0)):=hid ⟨es3,hO3⟩;have hX3:=hX.out.below HB3.out hX.out.lt;obtain⟨x0,x1,x2,x3,y0,y1,y2,y3⟩:=hX3.four;have hXl:=hX.out.lt;clear hB2 hB3 hO3 HF hX3 hgl
   go_wp2_with fail
   clear x0 x1 x2 x3 y0 y1 y2 y3
   go_loopg [6,49] S.cols.length (fun gh2 sv ix wx=>∃i:Nat,ix = .int .i64 i∧sv = .slice (some ⟨gl,0,none⟩) n n∧i+gh2=S.cols.length∧Hid (Below W0.heap.size W0 wx)∧Hid (∃es',jp wx gl es' (yj S n i))∧Hid (∀j<i,S.cols[j]?.getD 0≠n))
   case atStart=>exact⟨0,rfl,rfl,by omega,HB3,HO3,hid (fun j hj=>by omega)⟩
   case round=>
    clear HB3 HO3;obtain⟨i,rfl,rfl,hi,hWx,hOx,hne⟩:=hrel
    cases gk with
    | zero=>
     have hin3:¬((i:Int)<(S.cols.length:Int)):=by omega
     have hnot:n ∉ (ko jd (n+1) M).cols:=by
      rw[←HSame.out.cols];intro hm;obtain⟨j,hj⟩:=List.mem_iff_getElem?.1 hm;have hjl:=(List.getElem?_eq_some_iff.1 hj).1;exact hne.out j (by omega) (by rw[hj];rfl)
     have hOf:=hOx.out;rw[show i=S.cols.length by omega,FP HSame.out,HSame.out.cols] at hOf;have HOf:=hid hOf;have Hnot:=hid hnot;clear hOf hnot hOx hne
     go_wp2
     go_ret2;unfold ZG;rw[←HME.out];obtain⟨es',h'⟩:=HOf.out;exact⟨HW0B.out.trans (hWx.out.mono HW0B.out.size),.inr ⟨Hnot.out,gl,es',rfl,by have:=HW0B.out.size;omega,h'⟩⟩
    | succ gh2=>
     have hil:i<S.cols.length:=by omega
     have hil':(i:Int)<(S.cols.length:Int):=by omega
     have hilp:i<S.piv.length:=by have:=Hl1.out;omega
     obtain⟨cb,hA,_,hcbl,hcc⟩:=z6 (kB Hcv2.out hWx.out) (j:=i) hil;have c3:wr.cell? ⟨cb,i,none⟩=some (.int .i64 ((S.cols[i]?.getD 0:Nat):Int)):=(hcc i hil).trans (by simp[jo,hil]);have hci:S.cols[i]?.getD 0<n+1:=Hcl.out _ (by rw[List.getElem?_eq_getElem hil];exact List.getElem_mem hil);have Hsucc:=hid (XD S n i);have Hi:=hid hi
     have Hne2:Hid (S.cols[i]?.getD 0≠n → ∀j<i+1,S.cols[j]?.getD 0≠n):=hid (fun h j hj=>by
      rcases Nat.lt_or_ge j i with hji | hji
      ·exact hne.out j hji
      ·rw[show j=i by omega];exact h)
     have Hmem:Hid (S.cols[i]?.getD 0=n→n∈(ko jd (n+1) M).cols):=hid (fun h=>by
      rw[←HSame.out.cols,←h,List.getElem?_eq_getElem hil];exact List.getElem_mem hil)
     subst hA;clear hcc hi hne;generalize S.cols[i]?.getD 0=ci at *;by_cases hcn:ci=n
     ·have hcnB:((ci:Int)==(n:Int))=true:=by simp;omega
      have Hm:=hid (Hmem.out hcn);clear hcn Hmem Hne2 Hsucc hOx
      go_wp2
      go_ret2;unfold ZG;rw[←HME.out];exact⟨HW0B.out.trans (hWx.out.mono HW0B.out.size),.inl ⟨Hm.out,rfl⟩⟩
     ·have hcnB:((ci:Int)==(n:Int))=false:=by simp;omega
      have hcin:ci<n:=by omega
      have hcin':(ci:Int)<(n:Int):=by omega
      have HN:=hid (Hne2.out hcn);clear hcn Hmem Hne2 hci
      obtain⟨r,hr⟩:∃r,S.rows[i]? =some r:=⟨S.rows[i]'(by have:=Hl2.out;omega),List.getElem?_eq_getElem _⟩
      have hMb:=HM2.out.below hWx.out;have cc1:=hMb.cellRow hr;obtain⟨⟨esr,hrq⟩,hrl,hrc1,hrc2⟩:=hMb.row _ (List.mem_of_getElem? hr);obtain⟨er,R1,rn1,rc1,R2,rn2,rc2,zz0,her,hrt,d0,d1,d2,zz1,zz2,zz3⟩:=hrq.at_ (j:=n) (by rw[hrl];omega);clear zz0 zz1 zz2 zz3;obtain⟨er0,era,erb⟩:=er
      have her':era = .slice R1 rn1 rc1∧erb = .slice R2 rn2 rc2:=by simpa using her
      obtain⟨rfl,rfl⟩:=her';clear her;unfold k8 at hrt;dsimp only at d0 hrt;have hgb:=hMb.own.lt;have hrbl:=hrq.own.lt;have Hy:Hid (jI jd S.rows i n=r.2.2[n]?.getD 0):=hid (by unfold jI;rw[kW hr];rfl);obtain⟨esx,hOx1⟩:=hOx.out;obtain⟨t4,T1,tn1,tc1,T2,tn2,tc2,zz0,ht4,zz1,c40,c41,c42,f40,f41,f42⟩:=hOx1.at_ (j:=ci) (by rw[ZF];exact hcin);clear zz0 zz1;obtain⟨t40,t4a,t4b⟩:=t4
      have ht4':t4a = .slice T1 tn1 tc1∧t4b = .slice T2 tn2 tc2:=by simpa using ht4
      obtain⟨rfl,rfl⟩:=ht4';clear ht4;dsimp only at c40;have hgll:=hOx1.own.lt
      have HO7:Hid (∃es',jp (((wr.setCell ⟨gl,ci*3,none⟩ (.bool er0)).setCell ⟨gl,ci*3+1,none⟩ (.slice R1 rn1 rc1)).setCell ⟨gl,ci*3+2,none⟩ (.slice R2 rn2 rc2)) gl es' (yj S n (i+1))):=hid (by
       rw[Hsucc.out,Hy.out]
       exact⟨_,hOx1.put (j:=ci) (e:=(er0,.slice R1 rn1 rc1,.slice R2 rn2 rc2)) (by rw[ZF];exact hcin) hrt⟩)
      have HW7:=hid (((hWx.out.setCell (p:=⟨gl,ci*3,none⟩) hglW (.bool er0)).setCell (p:=⟨gl,ci*3+1,none⟩) hglW (.slice R1 rn1 rc1)).setCell (p:=⟨gl,ci*3+2,none⟩) hglW (.slice R2 rn2 rc2));have hXw:=hX.out.below hWx.out hX.out.lt;obtain⟨x0,x1,x2,x3,y0,y1,y2,y3⟩:=hXw.four;obtain⟨rb,rc,rl⟩:=r;unfold jZ at cc1;dsimp only at cc1 hrl hrc1 hrc2 hrbl d0 d1 d2;clear hr hMb hrq hrt Hy hOx1 hOx hXw hrl
      go_wp2
      go_roundg gh2
      case rel=>exact⟨i+1,by go_num,rfl,by have:=Hi.out;omega,HW7,HO7,HN⟩
      case measure=>omega
def qp (w:World) (base:Nat) (v:Value) (B:List jr):Prop:=
 w.ownsRow base 167 1 v B.length (B.map fun r=>Value.slice (some ⟨r.1,0,none⟩) r.2.2.length r.2.1)∧ks w kt v ∧ ∀r∈B,(∃es,jp w r.1 es r.2.2)∧r.2.2.length≤r.2.1
theorem qp.below {w w':World} {base:Nat} {v:Value} {B:List jr} (h:qp w base v B) (hb:Below w.heap.size w w'):qp w' base v B:=
 ⟨kB h.1 hb,qO h.2.1 h.1 hb,fun r hr=>⟨by obtain⟨es,he⟩:=(h.2.2 r hr).1;exact⟨es,he.below hb⟩,(h.2.2 r hr).2⟩⟩
theorem qp.keep {w w':World} {base:Nat} {v:Value} {B:List jr} (h:qp w base v B) (hK:kr w w') (hv:∀k,v.ownBlock=some k→w'.heap[k]? =w.heap[k]?) (hk:∀r∈B,w'.heap[r.1]? =w.heap[r.1]?):qp w' base v B:=
 ⟨xa h.1 (fun k _ e=>hv k e),h.2.1.same hv,fun r hr=>⟨by obtain⟨es,he⟩:=(h.2.2 r hr).1;exact⟨es,he.keeps hK (hk r hr)⟩,(h.2.2 r hr).2⟩⟩
theorem qp.snoc {w w':World} {base:Nat} {v v':Value} {B:List jr} {r:jr} (h:qp w base v B) (hg:w.grownBy w' v.ownBlock) (hown:w'.ownsRow base 167 1 v' (B.length+1) (B.map (fun r=>Value.slice (some ⟨r.1,0,none⟩) r.2.2.length r.2.1)++[.slice (some ⟨r.1,0,none⟩) r.2.2.length r.2.1]))
  (hall:ks w' kt v') (hO:∃es,jp w r.1 es r.2.2) (hl:r.2.2.length≤r.2.1):qp w' base v' (B++[r]):=by
 have hK:=kr.grown hg h.1 h.2.1
 have hk:∀(k:Nat) (es:List El) (q:List Rat),jp w k es q→jp w' k es q:=fun k es q hq=>hq.keeps hK (hg.block k hq.own.lt (fun e=>Zg hq.own h.1 (by decide) e.symm))
 refine⟨by rw[List.map_append,List.length_append];exact hown,hall,fun x hx=> ?_⟩;rcases List.mem_append.1 hx with hx | hx
 ·have:=h.2.2 x hx
  obtain⟨es,he⟩:=this.1;exact⟨⟨es,hk _ _ _ he⟩,this.2⟩
 ·obtain rfl:=List.mem_singleton.1 hx
  obtain⟨es,he⟩:=hO;exact⟨⟨es,hk _ _ _ he⟩,hl⟩
theorem kI.snoc {w w':World} {base:Nat} {v v':Value} {V:List Rat} {es:List El} (ho:w.ownsRow base 122 3 v V.length (jw es)) (hl:es.length=V.length) (ha0:ks w kt v) (hr:∀(i:Nat) (e:El) (q:Rat),es[i]? =some e→V[i]? =some q→Rt w (k8 e) q)
  {e:El} {x:Rat} (hx:Rt w (k8 e) x) (hown:w'.ownsRow base 122 3 v' (V.length+1) (jw es++Js e)) (hall:ks w' kt v') (hg:w.grownBy w' v.ownBlock):kI w' base v' (V++[x]):=by
 have hK:=kr.grown hg ho ha0;refine⟨es++[e],by rw[U4,List.length_append];exact hown,by simp[hl],hall,fun i e' q he hq=> ?_⟩;rcases Nat.lt_or_ge i es.length with hi | hi
 ·rw[List.getElem?_append_left hi] at he
  rw[List.getElem?_append_left (by omega)] at hq;exact(hr i e' q he hq).keeps hK
 ·rw[List.getElem?_append_right hi] at he
  rw[List.getElem?_append_right (by omega)] at hq;rw[←hl] at hq
  have h0:i-es.length=0:=by
   rcases Nat.eq_zero_or_pos (i-es.length) with h0 | h0
   ·exact h0
   ·rw[List.getElem?_eq_none (by simp;omega)] at he;cases he
  rw[h0] at he hq;simp at he hq;subst he hq;exact hx.keeps hK
theorem kI.grown {w w':World} {base:Nat} {v:Value} {V:List Rat} {u:Value} {e:TypeId} {s n:Nat} {xs:List Value} {base':Nat} (h:kI w base v V) (hg:w.grownBy w' u.ownBlock) (ho:w.ownsRow base' e s u n xs) (ha:ks w kt u) (hte:122≠e):kI w' base v V:=by
 refine h.keep (kr.grown hg ho ha) fun k hk=>hg.block k (h.lt k hk).2 ?_
 obtain⟨es,hp,_⟩:=h
 exact fun e'=>Qa hp ho hte k hk e'.symm
theorem qp.grown {w w':World} {base:Nat} {v:Value} {B:List jr} {u:Value} {s n:Nat} {xs:List Value} {base':Nat} (h:qp w base v B) (hg:w.grownBy w' u.ownBlock) (ho:w.ownsRow base' 122 s u n xs) (ha:ks w kt u) (hB:∀r∈B,u.ownBlock≠some r.1):qp w' base v B:=by
 refine h.keep (kr.grown hg ho ha) (fun k hk=>hg.block k (h.1.lt k hk).2 (fun e'=>Qa h.1 ho (by decide) k hk e'.symm)) (fun r hr=> ?_);obtain⟨es,he⟩:=(h.2.2 r hr).1;exact hg.block r.1 he.own.lt (fun e'=>hB r hr e'.symm)
def qj (M:List (List Rat)) (j:Nat):List Rat:=M.map fun L=>L[j]?.getD 0
def Se (n:Nat) (M:List (List Rat)) (b:List Rat) (w:World) (e:Ending) (w':World):Prop:=
 ∃ev B sv,e = .returned (.tuple #[ev,sv])∧B.map (·.2.2)=(List.range n).map (qj M)++[b]∧qp w' w.heap.size ev B∧kI w' w.heap.size sv (List.replicate n 0++[1])∧Below w.heap.size w w'
theorem AE (w:World):Calls Tryz.prog 125 #[.int .i64 0] w (qE 0 w):=by simpa using Ke 0 w (by omega) (by omega)
theorem AF (w:World):Calls Tryz.prog 125 #[.int .i64 1] w (qE 1 w):=by simpa using Ke 1 w (by omega) (by omega)
theorem Sf (g c n bR cR:Nat) (R:List jr) (esR:List El) (b:List Rat) (w:World) (hM:j8 w g R n) (hc2:R.length≤1000000) (hn:n≤999999) (h0:R=[]→n=0)
  (hb:jp w bR esR b) (hbl:b.length=R.length) (hcR:b.length≤cR):
  Calls Tryz.prog 156 #[.slice (some ⟨g,0,none⟩) R.length c,.slice (some ⟨bR,0,none⟩) R.length cR] w (Se n (ju R) b w):=by
 have HM:=hid hM;have HB:=hid hb;have HBl:=hid hbl;have HcR:=hid hcR
 have WD:Hid (Calls Tryz.prog 159 #[.slice (some ⟨g,0,none⟩) R.length c] w fun e w'=>e = .returned (.int .i64 (n:Int))∧w=w'):=hid (by
  have h:=Qp g c n R w hM;by_cases hR:R=[]
  ·rw[if_pos hR] at h;rw[h0 hR];exact h
  ·rw[if_neg hR] at h;exact h)
 clear hM hb hbl hcR h0;obtain⟨i0,hi0,hz0,hz1,hz2⟩:=info_parts Vx;obtain⟨j0,hj0,hw0,hw1,hw2⟩:=info_parts KQ;go_enter Tryz.func156,Tryz.ntmps156
 go_wp2_with (go_at_call 159;refine WD.out.mono ?_;rintro e w' ⟨rfl,rfl⟩)
 clear WD
 go_loopg [4,5,12] n (fun gh ev sv jx wr=>∃(j:Nat) (B:List jr),jx = .int .i64 j∧j+gh=n∧B.length=j∧Hid (B.map (·.2.2)=(List.range j).map (qj (ju R)))∧Hid (∀r∈B,∃cs,ja wr r.1 122 cs∧w.heap.size≤r.1∧sv.ownBlock≠some r.1)∧Hid (qp wr w.heap.size ev B)∧Hid (kI wr w.heap.size sv (List.replicate j 0))∧Hid (Below w.heap.size w wr))
 case atStart=>exact⟨0,[],rfl,by omega,rfl,hid rfl,hid (by simp),hid ⟨World.ownsRow_nil _ _ _ _,ks.nil _ _,by simp⟩,hid ⟨[],World.ownsRow_nil _ _ _ _,rfl,ks.nil _ _,fun i e q h=>by simp at h⟩,hid (Below.refl _ _)⟩
 case round=>
  obtain⟨j,B,rfl,hj,hBl,hBv,hBo,hE,hS,hW⟩:=hrel;obtain⟨A4,c4,hev,_,_⟩:=j7 hE.out.1;obtain⟨A5,c5,hsv,_,_⟩:=hS.out.form;rw[List.length_replicate] at hsv;rw[hBl] at hev;subst hev hsv;have hal:Hid (∀o:Obj,Below wr.heap.size wr (wr.alloc o)):=hid (fun o=>(Below.refl _ _).alloc (Nat.le_refl _) _);have hww:=hW.out.size
  cases gk with
  | zero=>
   have hin:¬((j:Int)<(n:Int)):=by omega
   have hjn:j=n:=by omega
   subst hjn;have hcb:b.length≤cR:=HcR.out;rw[←HBl.out];have HB2:=hid (HB.out.below hW.out);have hBR:bR<w.heap.size:=HB.out.own.lt;have hE1:=hE.out.1;rw[hBl] at hE1;have HE1:=hid hE1;have HBL:=hid hBl;clear hE1 hBl hj
   go_wp2_with (at_builtin;(refine Kt _ (o:=⟨some 45,_,_,_,_,_⟩) rfl _ _ 163 rfl w.heap.size 167 i0 (.slice none 0 0) 1 24 Tryz.underlying163 hi0 hz0 hz1 hz2 rfl (by decide) _ _ _ rfl (HE1.out.alloc _) ⟨wr.heap.size,0,none⟩ 1 1 [.slice (some ⟨bR,0,none⟩) b.length cR] rfl rfl (cell_one_new _ _ _) (fun x hx=>by simp at hx;subst hx;rfl) (by unfold maxLen;omega) (by omega) (by simp;omega) (by decide) kt (qO hE.out.2.1 HE1.out (hal.out _)) (Y7 _ _ _) ZW ?_;intro v7 w7 hown7 hgrow7 hall7))
   have hg7:(wr.alloc (.cells #[.slice (some ⟨bR,0,none⟩) b.length cR] 167)).grownBy w7 (Value.slice A4 j c4).ownBlock:=hgrow7;have HE7:Hid (qp w7 w.heap.size v7 (B++[(bR,cR,b)])):=hid ((hE.out.below (hal.out _)).snoc (r:=(bR,cR,b)) hg7 (by rw[HBL.out];exact hown7) hall7 ⟨esR,HB2.out.below (hal.out _)⟩ hcb);have HS7:=hid ((hS.out.below (hal.out (.cells #[.slice (some ⟨bR,0,none⟩) b.length cR] 167))).grown hg7 (kB HE1.out (hal.out _)) (qO hE.out.2.1 HE1.out (hal.out _)) (by decide));have HW7:Hid (Below w.heap.size w w7):=hid (Below.grown (hW.out.alloc hww _) hg7 (by simp;omega) (fun k hk=>(HE1.out.lt k hk).1))
   have HNE:Hid (∀r∈B++[((bR,cR,b):jr)],(Value.slice A5 j c5).ownBlock≠some r.1):=hid (fun r hr=>by
    rcases List.mem_append.1 hr with hr | hr
    ·obtain⟨_,_,_,h⟩:=hBo.out r hr;exact h
    ·obtain rfl:=List.mem_singleton.1 hr
     intro e;have:=(hS.out.lt _ e).1;dsimp only at this
     omega)
   have HVals:Hid ((B++[((bR,cR,b):jr)]).map (·.2.2)=(List.range j).map (qj (ju R))++[b]):=hid (by rw[List.map_append,hBv.out];rfl);clear hown7 hgrow7 hg7 hall7 hE hS hBo hBv hW hal HE1;generalize B++[((bR,cR,b):jr)]=B7 at *;refine(AF _).mono ?_;rintro e w8 ⟨ov,rfl,hov,hB8⟩;obtain⟨os,O1,on1,oc1,O2,on2,oc2,rfl⟩:=hov.shape;have HE8:=hid (HE7.out.below hB8);have HW8:=hid (HW7.out.trans (hB8.mono HW7.out.size));have hS8:=HS7.out.below hB8;obtain⟨esS,ho8,hl8,ha8,hr8⟩:=hS8;have ho8':=ho8;rw[List.length_replicate] at ho8';have Ho8:=hid ho8';have Ho8l:=hid ho8;have Hl8:=hid hl8;have Ha8:=hid ha8;have Hr8:=hid hr8;have Hov:=hid hov;have hal8:Hid (∀o:Obj,Below w8.heap.size w8 (w8.alloc o)):=hid (fun o=>(Below.refl _ _).alloc (Nat.le_refl _) _);have hw8:=HW8.out.size;clear HE7 HS7 HW7 hB8 ho8 ho8' hl8 ha8 hr8 hov
   go_wp2_with (at_builtin;(refine Kt _ (o:=⟨some 49,_,_,_,_,_⟩) rfl _ _ 167 rfl w.heap.size 122 j0 yh 3 56 Tryz.underlying167 hj0 hw0 hw1 hw2 rfl (by decide) _ _ _ rfl (Ho8.out.alloc _) ⟨w8.heap.size,0,none⟩ 1 1 [.bool os,.slice O1 on1 oc1,.slice O2 on2 oc2] rfl rfl (Ye _ _ _ _ _) (K7 _ _ _ _ _ _ _) (by unfold maxLen;omega) (by omega) (by simp;omega) (by decide) kt (qO Ha8.out Ho8.out (hal8.out _)) (Y6 _ _ _ _ _ _ _) ZV ?_;intro v9 w9 hown9 hgrow9 hall9))
   have hg9:(w8.alloc (.cells #[.bool os,.slice O1 on1 oc1,.slice O2 on2 oc2] 122)).grownBy w9 (Value.slice A5 j c5).ownBlock:=hgrow9;have HS9:Hid (kI w9 w.heap.size v9 (List.replicate j 0++[1])):=hid (kI.snoc (e:=(os,.slice O1 on1 oc1,.slice O2 on2 oc2)) (kB Ho8l.out (hal8.out _)) Hl8.out (qO Ha8.out Ho8.out (hal8.out _)) (fun i e q h1 h2=>(Hr8.out i e q h1 h2).below (hal8.out _)) (Hov.out.below (hal8.out _)) (by rw[List.length_replicate];exact hown9) hall9 hg9);have HE9:Hid (qp w9 w.heap.size v7 B7):=hid ((HE8.out.below (hal8.out _)).grown hg9 (kB Ho8.out (hal8.out _)) (qO Ha8.out Ho8.out (hal8.out _)) HNE.out);have HW9:Hid (Below w.heap.size w w9):=hid (Below.grown (HW8.out.alloc hw8 _) hg9 (by simp;omega) (fun k hk=>(Ho8.out.lt k hk).1));clear hown9 hgrow9 hg9 hall9;go_ret2;exact⟨v7,B7,v9,rfl,HVals.out,HE9.out,HS9.out,HW9.out⟩
  | succ gh=>
   have hlt:j<n:=by omega
   have hlt':(j:Int)<(n:Int):=by omega
   have hmk:=YU wr ka R.length hc2
   have HO:Hid (jp (wr.alloc (.cells (kF ka R.length 0).toArray 122)) wr.heap.size (List.replicate R.length ka) ((qj (ju R) j).take 0)):=hid (by
    refine⟨?_,by simp,fun e he=> ?_,fun i e q h1 h2=>by simp at h2⟩
    ·have:=ja.make wr 122 (kF ka R.length 0)
     rw[show kF ka R.length 0=jw (List.replicate R.length ka) by simp[kF]] at this ⊢;exact this
    ·rw[List.eq_of_mem_replicate he];exact⟨jq _ _ _,jq _ _ _⟩)
   have HCl:Hid ((qj (ju R) j).length=R.length):=hid (by unfold qj;rw[List.length_map,yl]);have Hj:=hid hj;clear hj
   go_wp2_with fail
   clear hmk
   obtain⟨wb,rfl⟩:∃wb,wb=wr:=⟨_,rfl⟩
   go_loopg [20] R.length (fun gh2 ix wx=>∃(i:Nat) (es:List El),ix = .int .i64 i∧i+gh2=R.length∧Hid (jp wx wb.heap.size es ((qj (ju R) j).take i))∧Hid (es.length=R.length)∧Hid (Below wb.heap.size wb wx))
   case atStart=>exact⟨0,_,rfl,by omega,HO,hid (by simp),hid ((Below.refl _ _).alloc (Nat.le_refl _) _)⟩
   case round=>
    clear HO;obtain⟨i,es,rfl,hi,hO,hEl,hWx⟩:=hrel
    cases gk with
    | succ gh2=>
     have hil:i<R.length:=by omega
     have hil':(i:Int)<(R.length:Int):=by omega
     obtain⟨r,hr⟩:∃r,R[i]? =some r:=⟨R[i],List.getElem?_eq_getElem hil⟩
     have hMx:=HM.out.below (hW.out.trans (hWx.out.mono hww));have cc1:=hMx.cellRow hr;have hgl:=hMx.own.lt;obtain⟨⟨esr,hrq⟩,hrl,hrc1,hrc2⟩:=hMx.row _ (List.mem_of_getElem? hr);obtain⟨er,R1,rn1,rc1,R2,rn2,rc2,zz0,her,hrt,d0,d1,d2,zz1,zz2,zz3⟩:=hrq.at_ (j:=j) (by rw[hrl];exact hlt);clear zz0 zz1 zz2 zz3;obtain⟨er0,era,erb⟩:=er
     have her':era = .slice R1 rn1 rc1∧erb = .slice R2 rn2 rc2:=by simpa using her
     obtain⟨rfl,rfl⟩:=her';clear her;unfold k8 at hrt;dsimp only at d0 hrt;have hrbl:=hrq.own.lt
     have hql:((qj (ju R) j).take i).length=i:=by rw[List.length_take,HCl.out];omega
     have hies:i<es.length:=by rw[hEl.out];exact hil
     obtain⟨x0,x1,x2,k0,k1,k2,f0,f1,f2⟩:=hO.out.raw hies;have hbl:=hO.out.own.lt
     have HV:Hid ((qj (ju R) j).take (i+1)=(qj (ju R) j).take i++[r.2.2[j]?.getD 0]):=hid (by
      rw[List.take_add_one];unfold qj ju
      rw[List.getElem?_map,List.getElem?_map,hr];rfl)
     have HO2:Hid (jp (((wr.setCell ⟨wb.heap.size,i*3,none⟩ (.bool er0)).setCell ⟨wb.heap.size,i*3+1,none⟩ (.slice R1 rn1 rc1)).setCell ⟨wb.heap.size,i*3+2,none⟩ (.slice R2 rn2 rc2)) wb.heap.size (es.set i (er0,.slice R1 rn1 rc1,.slice R2 rn2 rc2)) ((qj (ju R) j).take (i+1))):=hid (by
      have:=hO.out.push (e:=(er0,.slice R1 rn1 rc1,.slice R2 rn2 rc2)) (q:=r.2.2[j]?.getD 0) (by rw[hql];exact hies) hrt;rw[hql,←HV.out] at this
      exact this)
     have HW2:=hid (((hWx.out.setCell (p:=⟨wb.heap.size,i*3,none⟩) (Nat.le_refl _) (.bool er0)).setCell (p:=⟨wb.heap.size,i*3+1,none⟩) (Nat.le_refl _) (.slice R1 rn1 rc1)).setCell (p:=⟨wb.heap.size,i*3+2,none⟩) (Nat.le_refl _) (.slice R2 rn2 rc2));have HL2:Hid ((es.set i (er0,.slice R1 rn1 rc1,.slice R2 rn2 rc2)).length=R.length):=hid (by rw[List.length_set];exact hEl.out);generalize es.set i (er0,.slice R1 rn1 rc1,.slice R2 rn2 rc2)=es2 at *;have Hi:=hid hi;obtain⟨rb,rc,rl⟩:=r;unfold jZ at cc1;dsimp only at cc1 hrl hrc1 hrc2 hrbl d0 d1 d2;clear hr hMx hrq hrt hO hEl hWx HV hi hql hies hrl
     go_wp2
     go_roundg gh2
     case rel=>exact⟨i+1,es2,by go_num,by have:=Hi.out;omega,HO2,HL2,HW2⟩
     case measure=>omega
    | zero=>
     have hin2:¬((i:Int)<(R.length:Int)):=by omega
     have HO':Hid (jp wr wb.heap.size es (qj (ju R) j)):=hid (by
      have:=hO.out
      rwa [show i=(qj (ju R) j).length by rw[HCl.out];omega,List.take_length] at this)
     have HW1:=hid (hW.out.trans (hWx.out.mono hww));have HE0:=hid (hE.out.below hWx.out);have HS0:=hid (hS.out.below hWx.out);have hE1:=HE0.out.1;rw[hBl] at hE1;have HE1:=hid hE1;have HBL:=hid hBl;have hww1:=HW1.out.size;have halr:Hid (∀o:Obj,Below wr.heap.size wr (wr.alloc o)):=hid (fun o=>(Below.refl _ _).alloc (Nat.le_refl _) _);have HBo:Hid (∀r∈B,w.heap.size≤r.1∧r.1<wb.heap.size∧(Value.slice A5 j c5).ownBlock≠some r.1):=hid (fun r hr=>by obtain⟨cs,h1,h2,h3⟩:=hBo.out r hr;exact⟨h2,h1.lt,h3⟩);have HSl:Hid (∀k,(Value.slice A5 j c5).ownBlock=some k→k<wb.heap.size):=hid (fun k hk=>(hS.out.lt k hk).2);have hwbl:wb.heap.size<wr.heap.size:=HO'.out.own.lt;clear hO hEl hi hE hS hWx hE1 hBl hBo hal
     go_wp2_with (at_builtin;(refine Kt _ (o:=⟨some 36,_,_,_,_,_⟩) rfl _ _ 163 rfl w.heap.size 167 i0 (.slice none 0 0) 1 24 Tryz.underlying163 hi0 hz0 hz1 hz2 rfl (by decide) _ _ _ rfl (HE1.out.alloc _) ⟨wr.heap.size,0,none⟩ 1 1 [.slice (some ⟨wb.heap.size,0,none⟩) R.length R.length] rfl rfl (cell_one_new _ _ _) (fun x hx=>by simp at hx;subst hx;rfl) (by unfold maxLen;omega) (by omega) (by simp;omega) (by decide) kt (qO HE0.out.2.1 HE1.out (halr.out _)) (Y7 _ _ _) ZW ?_;intro v7 w7 hown7 hgrow7 hall7))
     have hg7:(wr.alloc (.cells #[.slice (some ⟨wb.heap.size,0,none⟩) R.length R.length] 167)).grownBy w7 (Value.slice A4 j c4).ownBlock:=hgrow7;have HE7:Hid (qp w7 w.heap.size v7 (B++[(wb.heap.size,R.length,qj (ju R) j)])):=hid ((HE0.out.below (halr.out _)).snoc (r:=(wb.heap.size,R.length,qj (ju R) j)) hg7 (by rw[HBL.out];dsimp only;rw[HCl.out];exact hown7) hall7 ⟨es,HO'.out.below (halr.out _)⟩ (by dsimp only;rw[HCl.out];exact Nat.le_refl _));have HS7:=hid ((HS0.out.below (halr.out (.cells #[.slice (some ⟨wb.heap.size,0,none⟩) R.length R.length] 167))).grown hg7 (kB HE1.out (halr.out _)) (qO HE0.out.2.1 HE1.out (halr.out _)) (by decide));have HW7:Hid (Below w.heap.size w w7):=hid (Below.grown (HW1.out.alloc hww1 _) hg7 (by simp;omega) (fun k hk=>(HE1.out.lt k hk).1))
     have HBo7:Hid (∀r∈B++[((wb.heap.size,R.length,qj (ju R) j):jr)],w.heap.size≤r.1∧r.1≤wb.heap.size∧(Value.slice A5 j c5).ownBlock≠some r.1):=hid (fun r hr=>by
      rcases List.mem_append.1 hr with hr | hr
      ·have:=HBo.out r hr;exact⟨this.1,Nat.le_of_lt this.2.1,this.2.2⟩
      ·obtain rfl:=List.mem_singleton.1 hr
       exact⟨hww,Nat.le_refl _,fun e=>by have:=HSl.out _ e;dsimp only at this;omega⟩)
     have HBv7:Hid ((B++[((wb.heap.size,R.length,qj (ju R) j):jr)]).map (·.2.2)=(List.range (j+1)).map (qj (ju R))):=hid (by rw[List.map_append,hBv.out,List.range_succ,List.map_append];rfl);have HBl7:Hid ((B++[((wb.heap.size,R.length,qj (ju R) j):jr)]).length=j+1):=hid (by rw[List.length_append,HBL.out];rfl)
     have hw7b:wb.heap.size<w7.heap.size:=by have:=hg7.size;simp at this;omega
     obtain⟨A7,c7,hv7,_,_⟩:=j7 hown7;subst hv7;clear hown7 hgrow7 hg7 hall7 HE0 HS0 HW1 HE1 HO' HBo hBv hW;generalize B++[((wb.heap.size,R.length,qj (ju R) j):jr)]=B7 at *
     go_wp2_with fail
     refine(AE _).mono ?_;rintro e w8 ⟨ov,rfl,hov,hB8⟩;obtain⟨os,O1,on1,oc1,O2,on2,oc2,rfl⟩:=hov.shape;have HE8:=hid (HE7.out.below hB8);have HW8:=hid (HW7.out.trans (hB8.mono HW7.out.size));have hw8b:wb.heap.size<w8.heap.size:=Nat.lt_of_lt_of_le hw7b hB8.size;have hS8:=HS7.out.below hB8;obtain⟨esS,ho8,hl8,ha8,hr8⟩:=hS8;have ho8':=ho8;rw[List.length_replicate] at ho8';have Ho8:=hid ho8';have Ho8l:=hid ho8;have Hl8:=hid hl8;have Ha8:=hid ha8;have Hr8:=hid hr8;have Hov:=hid hov;have hal8:Hid (∀o:Obj,Below w8.heap.size w8 (w8.alloc o)):=hid (fun o=>(Below.refl _ _).alloc (Nat.le_refl _) _);have hw8:=HW8.out.size;clear HE7 HS7 HW7 hB8 ho8 ho8' hl8 ha8 hr8 hov
     go_wp2_with (at_builtin;(refine LI _ (o:=⟨some 40,_,_,_,_,_⟩) rfl _ _ 167 rfl w.heap.size 122 j0 yh 3 56 Tryz.underlying167 hj0 hw0 hw1 hw2 rfl (by decide) _ _ _ rfl (Ho8.out.alloc _) ⟨w8.heap.size,0,none⟩ 1 1 [.bool os,.slice O1 on1 oc1,.slice O2 on2 oc2] rfl rfl (Ye _ _ _ _ _) (K7 _ _ _ _ _ _ _) (by unfold maxLen;omega) (by omega) (by simp;omega) (by decide) kt (qO Ha8.out Ho8.out (hal8.out _)) (Y6 _ _ _ _ _ _ _) ZV ?_;intro v9 w9 hown9 hgrow9 hall9 hat9))
     have hg9:(w8.alloc (.cells #[.bool os,.slice O1 on1 oc1,.slice O2 on2 oc2] 122)).grownBy w9 (Value.slice A5 j c5).ownBlock:=hgrow9;have hat9':v9.ownBlock=(Value.slice A5 j c5).ownBlock∨v9.ownBlock=some (w8.heap.size+1):=hat9.imp id (fun h=>h.trans (congrArg some (Array.size_push _)))
     have HS9:Hid (kI w9 w.heap.size v9 (List.replicate (j+1) 0)):=hid (by
      rw[List.replicate_succ']
      exact kI.snoc (e:=(os,.slice O1 on1 oc1,.slice O2 on2 oc2)) (kB Ho8l.out (hal8.out _)) Hl8.out (qO Ha8.out Ho8.out (hal8.out _)) (fun i e q h1 h2=>(Hr8.out i e q h1 h2).below (hal8.out _)) (Hov.out.below (hal8.out _)) (by rw[List.length_replicate];exact hown9) hall9 hg9)
     have HE9:Hid (qp w9 w.heap.size (Value.slice A7 (j+1) c7) B7):=hid ((HE8.out.below (hal8.out _)).grown hg9 (kB Ho8.out (hal8.out _)) (qO Ha8.out Ho8.out (hal8.out _)) (fun r hr=>(HBo7.out r hr).2.2));have HW9:Hid (Below w.heap.size w w9):=hid (Below.grown (HW8.out.alloc hw8 _) hg9 (by simp;omega) (fun k hk=>(Ho8.out.lt k hk).1))
     have HBo9:Hid (∀r∈B7,∃cs,ja w9 r.1 122 cs∧w.heap.size≤r.1∧v9.ownBlock≠some r.1):=hid (fun r hr=>by
      obtain⟨es',he⟩:=(HE9.out.2.2 r hr).1;refine⟨_,he.own,(HBo7.out r hr).1,fun e=> ?_⟩;have h7:=HBo7.out r hr;rcases hat9' with h | h
      ·exact h7.2.2 (h ▸ e)
      ·rw[h] at e
       have:w8.heap.size+1=r.1:=Option.some.inj e
       omega)
     clear hown9 hgrow9 hg9 hall9 hat9 hat9' HE8 HW8 Ho8 Ho8l Hl8 Ha8 Hr8 Hov
     go_wp2
     go_roundg gh
     case rel=>exact⟨j+1,B7,by go_num,by have:=Hj.out;omega,HBl7.out,HBv7,HBo9,HE9,HS9,HW9⟩
     case measure=>omega
def KX (n:Nat) (M:List (List Rat)):List (List Rat):=nsBasis jd 0 1 n (ko jd n (M.map List.reverse)) n
def jA {α:Type} (M:List (List α)):Nat:=(M[0]?.map (·.length)).getD 0
theorem kv.neg0 {y:Rat} (h:kv y):kv (0-y):=by
 rw[Rat.sub_eq_add_neg,Rat.zero_add];exact⟨by rw[Rat.neg_num,Int.natAbs_neg];exact h.1,by rw[Rat.neg_den];exact h.2⟩
theorem Q6:kv 0:=⟨.small (by decide),.small (by decide)⟩
theorem Np:kv 1:=⟨.small (by decide),.small (by decide)⟩
theorem xn.num {S:jz Rat} (h:xn S) (i j:Nat):kv (jI jd S.rows i j):=by
 unfold jI jG
 cases hr:S.rows[i]? with
 | none=>exact Q6
 | some r=>
  simp only[Option.map_some,Option.getD_some]
  cases hx:r.2.2[j]? with
  | none=>exact Q6
  | some x=>exact h r (List.mem_of_getElem? hr) x (List.mem_of_getElem? hx)
theorem xn.nsSet {S:jz Rat} (h:xn S) (col k:Nat) (L:List Rat) (hL:∀q∈L,kv q):∀q∈nsSet jd 0 S col k L,kv q:=by
 induction k with
 | zero=>exact hL
 | succ k ih=>
  intro q hq;rw[K4] at hq;rcases List.mem_or_eq_of_mem_set hq with hq | rfl
  ·exact ih q hq
  ·exact(h.num k col).neg0
theorem xn.basis {S:jz Rat} (h:xn S) (n k:Nat):∀L∈nsBasis jd 0 1 n S k,L.length=n ∧ ∀q∈L,kv q:=by
 induction k with
 | zero=>simp[nsBasis]
 | succ k ih=>
  intro L hL;unfold nsBasis at hL;rcases List.mem_append.1 hL with hL | hL
  ·exact ih L hL
  ·split at hL
   ·cases hL
   ·obtain rfl:=List.mem_singleton.1 hL
    unfold zC;refine⟨by rw[List.length_reverse,zZ];simp,fun q hq=> ?_⟩;refine h.nsSet _ _ _ (fun z hz=> ?_) q (List.mem_reverse.1 hq);rcases List.mem_or_eq_of_mem_set hz with hz | rfl
    ·rw[List.eq_of_mem_replicate hz];exact Q6
    ·exact Np
theorem xn.same {S Z:jz Rat} (h:kw S Z) (hz:xn Z):xn S:=by
 intro r hr x hx;have h1:r.2.2∈ju S.rows:=List.mem_map_of_mem hr;rw[h.rows] at h1;obtain⟨q,hq,he⟩:=List.mem_map.1 h1;exact hz q hq x (by rw[he];exact hx)
theorem yD.mono {w w0 wr:World} {g m k:Nat} {Ls:List (List Rat)} {B:List (Nat×List jn)} (h:yD w wr g m Ls k B) (hw:w0.heap.size≤w.heap.size):yD w0 wr g m Ls k B:=
 ⟨h.own,fun r hr=>⟨Nat.le_trans hw (h.rows r hr).1,(h.rows r hr).2⟩,h.vals⟩
theorem K0 {M:List (List jn)} (h:jT M=0):M.length≤256∧jA M≤256:=by
 unfold jT at h;split at h
 ·cases h
 ·refine⟨by omega,?_⟩
  cases M with
  | nil=>simp[jA]
  | cons a t=>
   simp only[List.getElem?_cons_zero,Option.map_some,Option.getD_some,xk] at h;split at h
   ·cases h
   ·simp[jA];omega
def DZ (Ls:List (List Rat)) (w:World) (e:Ending) (w':World):Prop:=
 (yR Ls ∧ ∃(g:Nat) (B:List (Nat×List jn)),e = .returned (.tuple #[.slice (some ⟨g,0,none⟩) Ls.length Ls.length,.int .i64 0])∧w.heap.size≤g∧yD w w' g Ls.length Ls Ls.length B)∨(¬yR Ls∧e = .returned (.tuple #[jm,.int .i64 4]))
def Dp (M:List (List jn)) (w:World) (e:Ending) (w':World):Prop:=
 Below w.heap.size w w'∧((jT M=0∧DZ (KX (jA M) (M.map ji)) w e w')∨(jT M≠0∧e = .returned (.tuple #[jm,.int .i64 (jT M)])))
def Z7 (n:Nat) (M:List (List Rat)):Prop:=yS n (M.map List.reverse)∧xn (ko jd n (M.map List.reverse))
theorem M7 (v:Value) (M:List (List jn)) (w:World) (hv:kd w v M) (hT:∀r∈M,∀l∈r,xq l) (hG:jN w) (hok:jT M=0→Z7 (jA M) (M.map ji)):
  Calls Tryz.prog 69 #[v] w (Dp M w):=by
 have RR:=hid (Zu v M w hv hT hG);obtain⟨A,c,rfl,_,_⟩:=hv.form;have HOK:=hid hok;have HG:=hid hG;clear hv hT hG hok;go_enter Tryz.func69,Tryz.ntmps69
 go_wp2_with fail
 refine RR.out.mono ?_;clear RR;rintro e w1 ⟨hB1,⟨hM,g,R,rfl,hg,hnew,hmx,hvals⟩ | ⟨hM,rfl⟩⟩
 ·change j8 w1 g R (jA M) at hmx
  obtain⟨hm1,hn1⟩:=K0 hM;have HM:=hid hM;obtain⟨hok1,hok2⟩:=HOK.out hM
  have hRl:R.length=M.length:=by rw[←yl R,hvals];simp
  have hv2:ju (kj List.reverse R R.length)=(M.map ji).map List.reverse:=by rw[VV,hvals]
  have hE:=hok1.rows hv2;rw[KZ] at hE
  have hS:kw (jH jd (jA M) R.length 0 ⟨kj List.reverse R R.length,[],[],false⟩) (ko jd (jA M) ((M.map ji).map List.reverse)):=by
   have:=J2 (F:=jd) hv2 (jA M)
   rwa [KZ] at this
  have hF:=xn.same hS hok2
  have NS:=hid (Au g M.length (jA M) R w1 hmx (by omega) (by omega) (by omega) (fun h=>by
   have:M=[]:=List.length_eq_zero_iff.1 (by rw[←hRl,h];rfl)
   subst this;rfl) hE hF)
  rw[hRl] at NS;have HS:=hid hS;have HF:=hid hok2
  have Hbl:Hid (∀k∈g::R.map (·.1),w.heap.size≤k):=hid (fun k hk=>by
   rcases List.mem_cons.1 hk with rfl | hk
   ·exact hg
   ·obtain⟨r,hr,rfl⟩:=List.mem_map.1 hk;exact hnew r hr)
  have Hvals:=hid hvals;have HB1:=hid hB1;clear hmx hnew hvals hok1 hok2 hE hF hS hv2 hM hB1 hRl hg HOK
  go_wp2_with fail
  refine NS.out.mono ?_;clear NS;rintro e w2 ⟨v2,B,rfl,hBv,hTb,hbs⟩
  have hker:B.map (·.2)=KX (jA M) (M.map ji):=by rw[hBv,HS.out.nsBasis];rfl
  have hBl:B.length≤jA M:=by
   have h1:=congrArg List.length hBv;have h2:=We jd (0:Rat) 1 (jA M) (jH jd (jA M) R.length 0 ⟨kj List.reverse R R.length,[],[],false⟩) (jA M);rw[List.length_map] at h1;omega
  have hRA:=hTb.rowsAt (by omega);rw[hker] at hRA;have hB2:Below w.heap.size w w2:=HB1.out.trans (hbs.toBelow Hbl.out HB1.out.size);have hkb:=HF.out.basis (jA M) (jA M);have WR:=hid (LN v2 (KX (jA M) (M.map ji)) w2 hRA (by rw[←hker,List.length_map];omega) (fun L hL=>⟨by have:=(hkb L hL).1;omega,(hkb L hL).2⟩) (HG.out.below hB2));have HB2:=hid hB2;obtain⟨A9,k9,rfl,_,_⟩:=j7 hTb.1;clear hBv hTb hbs hker hRA hkb hB2;generalize hKe:KX (jA M) (M.map ji)=K at *;have HKe:=hid hKe;clear hKe
  go_wp2_with fail
  refine WR.out.mono ?_;clear WR;rintro e w3 ⟨hB3,⟨hsh,g3,B3,rfl,hg3,hT3⟩ | ⟨hsh,rfl⟩⟩
  ·have HX:=hid hsh
   have HT3:=hid hT3;have HB3:=hid (HB2.out.trans (hB3.mono HB2.out.size));have hgg:w.heap.size≤g3:=Nat.le_trans HB2.out.size hg3;clear hsh hT3 hB3
   go_wp2
   go_ret2;exact⟨HB3.out,.inl ⟨HM.out,by rw[HKe.out];exact .inl ⟨HX.out,g3,B3,rfl,hgg,HT3.out.mono HB2.out.size⟩⟩⟩
  ·have HX:=hid hsh
   have HB3:=hid (HB2.out.trans (hB3.mono HB2.out.size));clear hsh hB3
   go_wp2
   go_ret2;exact⟨HB3.out,.inl ⟨HM.out,by rw[HKe.out];exact .inr ⟨HX.out,rfl⟩⟩⟩
 ·have HX:=hid hM
  have hne:(jT M != 0)=true:=by simpa using hM
  clear HOK hM;generalize hec:jT M=ec at *;have HEC:=hid hec;clear hec
  go_wp2
  go_ret2;exact⟨hB1,.inr ⟨by rw[HEC.out];exact HX.out,by rw[HEC.out];rfl⟩⟩
