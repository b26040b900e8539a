/- Contracts: slices.Collect, Cycles. -/
import Derived.Test.YtneafcdfnhnpnaaGreatDoorZD27
import Derived.Test.YtneafcdfnhnpnaaGreatDoorZD16
import Derived.Test.YtneafcdfnhnpnaaGreatDoorZD24
set_option maxRecDepth 100000
set_option maxHeartbeats 8000000
namespace Go.Proofs.YtneafcdfnhnpnaaGreatDoor
open Go.RowKit Go.Lib
theorem MR (p:List Int) (A:Option Addr) (c Bp b0 off:Nat) (w:World) (hp:yw p) (hl:p.length≤256) (hbox:ja w Bp 50 [.slice A p.length c]) (hR:x6 p A b0 off w):
  Calls Tryz.prog 137 #[.func (.func 191) #[] #[.pointer (some ⟨Bp,0,none⟩)]] w (Ha (qI p) w):=by
 have AS:=hid (MP p A c Bp b0 off w hp hl hbox hR);clear hp hbox hR;go_enter Tryz.func137,Tryz.ntmps137
 go_wp2_with fail
 refine AS.out.mono ?_;rintro e w1 ⟨v,base,rfl,hb,hT,hB⟩;obtain⟨A5,c5,rfl,_,_⟩:=hT.form;have HT:=hid hT;have HB:=hid hB;clear hT hB AS
 go_wp2
 go_ret;exact⟨_,base,rfl,hb,HT.out,HB.out⟩
def Sp (p:List Int) (w:World) (e:Ending) (w':World):Prop:=
 Below w.heap.size w w'∧((kh p=0 ∧ ∃v base,e = .returned (.tuple #[v,.int .i64 0])∧w.heap.size≤base∧TI w' base v (qI p))∨(kh p≠0∧e = .returned (.tuple #[jm,.int .i64 (kh p)])))
theorem MS (v:Value) (p:List Int) (w:World) (hv:Sl w 1 v (je p)):Calls Tryz.prog 49 #[v] w (Sp p w):=by
 obtain⟨A,c,rfl,hc1,hc2⟩:=hv.form;simp only[kx] at hc1 hv ⊢;have CP:=hid (fun W h=>Qs (.slice A p.length c) p W h);by_cases he:kh p=0
 ·have hPp:yw p∧p.length≤256:=by unfold kh at he;split at he;omega;split at he;exact⟨by assumption,by omega⟩;omega
  have HV:=hid hv;have He:=hid he;have HPp:=hid hPp;clear hv he hPp;go_enter Tryz.func49,Tryz.ntmps49
  go_wp2_with fail
  refine(CP.out _ HV.out).mono ?_;rintro e w1 ⟨rfl,hB1⟩;rw[He.out];have hsl:=HV.out.below hB1;have HB1:=hid hB1;have hal:Below w1.heap.size w1 (w1.alloc (.cells #[.slice A p.length c] 50)):=(Below.refl _ w1).alloc (Nat.le_refl _) _;have hOb:=ja.make w1 50 [.slice A p.length c];obtain⟨b0,off,hRd,_⟩:=x6.ofSl (Bp:=w1.heap.size) (hsl.below hal) (by simp);have CL:=hid (MR p A c w1.heap.size b0 off (w1.alloc (.cells #[.slice A p.length c] 50)) HPp.out.1 HPp.out.2 hOb hRd);have HB2:=hid (hB1.trans (hal.mono hB1.size));clear hsl hal hOb hRd hB1 HV CP
  go_wp2_with fail
  refine(Yo _ _ _ _).mono ?_;rintro e w2 ⟨rfl,rfl⟩
  go_wp2_with fail
  refine CL.out.mono ?_;rintro e w3 ⟨u,base,rfl,hb,hT,hB⟩;obtain⟨A5,c5,rfl,_,_⟩:=hT.form;have HT:=hid hT;have HB3:=hid (HB2.out.trans (hB.mono HB2.out.size));have hbw:w.heap.size≤base:=Nat.le_trans HB2.out.size hb;clear hT hB CL
  go_wp2
  go_ret2;exact⟨HB3.out,.inl ⟨He.out,_,base,rfl,hbw,HT.out⟩⟩
 ·have hne:(kh p != 0)=true:=by simpa using he
  have He:=hid he;have HV:=hid hv;clear he hv;go_enter Tryz.func49,Tryz.ntmps49
  go_wp2_with fail
  refine(CP.out _ HV.out).mono ?_;rintro e w1 ⟨rfl,hB1⟩;have HB1:=hid hB1;clear hB1 CP;generalize hec:kh p=ec at *;have HEC:=hid hec;clear hec
  go_wp2
  go_ret2;exact⟨HB1.out,.inr ⟨by rw[HEC.out];exact He.out,by rw[HEC.out];rfl⟩⟩
theorem K9 {w:World} {o:Obj} {t:TypeId} {cs:List Value} :ja ((w.alloc o).alloc (.cells cs.toArray t)) (w.heap.size+1) t cs:=by
 have h:=ja.make (w.alloc o) t cs;simp only[World.size_alloc] at h;exact h
theorem Ft (x:Int):sg (!decide (x<0)) x.natAbs = -x:=by
 by_cases h:x<0
 ·rw[decide_eq_true h];unfold sg;rw[if_neg (by decide)];omega
 ·rw[decide_eq_false h];unfold sg;rw[if_pos (by decide)];omega
theorem Ga (v:Value) (x:Int) (w:World) (h:Ri w v x):Calls Tryz.prog 181 #[v] w (kQ (-x) w):=by
 obtain⟨dv,ws,rfl,hv,hok,hn,hs⟩:=h;obtain⟨A,c,rfl,hc1,hc2⟩:=hs.form;have hX:=Ft x;rw[←hv] at hX;generalize decide (x<0)=bx at *;have HB0:Hid (Below w.heap.size w ((w.alloc (.cells #[.bool bx,.slice A (jo ws).length c] 127)).alloc (.cells #[.bool false,.slice none 0 0] 127))):=hid (((Below.refl _ _).alloc (Nat.le_refl _) _).alloc (by simp) _);have HOw:Hid (ja ((w.alloc (.cells #[.bool bx,.slice A (jo ws).length c] 127)).alloc (.cells #[.bool false,.slice none 0 0] 127)) (w.heap.size+1) 127 [.bool false,.slice none 0 0]):=hid K9;have SG:=hid (xB (!bx) (.slice A (jo ws).length c) ws _ hok (hs.below HB0.out));rw[hX] at SG;clear hX hs hok hn hv;generalize (jo ws).length=n at *;go_enter Tryz.func181,Tryz.ntmps181
 go_wp2_with fail
 refine SG.out.mono ?_;rintro e w2 ⟨rv,rfl,hri,hB2⟩;obtain⟨RA,rn,rc,rfl,hr1,hr2⟩:=hri.open_;generalize hbz:decide (-x<0)=bz at *;have HO2:=hid (HOw.out.below hB2 HOw.out.lt);obtain⟨c0,c1,f0,f1⟩:=HO2.out.two;have HRF:=hid (hri.put2 (a':= .bool bz) (b':= .slice RA rn rc) HO2.out (js _) (jq _ _ _) (js _));have HBF:Hid (Below w.heap.size w ((w2.setCell ⟨w.heap.size+1,0,none⟩ (.bool bz)).setCell ⟨w.heap.size+1,1,none⟩ (.slice RA rn rc))):=hid (((HB0.out.trans (hB2.mono HB0.out.size)).setCell (p:=⟨w.heap.size+1,0,none⟩) (Nat.le_succ _) _).setCell (p:=⟨w.heap.size+1,1,none⟩) (Nat.le_succ _) _);clear hri hB2 hbz
 go_wp2
 obtain⟨z0,z1,_,_⟩:=(HO2.out.set2 (a':= .bool bz) (b':= .slice RA rn rc)).two;exact bodyPost_ret (v:= .agg #[.bool bz,.slice RA rn rc]) (by simp[results,Tryz.results181,go_sem,z0,z1]) rfl ⟨_,rfl,HRF.out,HBF.out⟩
def za (x:Int):List UInt8:=(if x<0 then [45] else [])++decDigits x.natAbs
theorem yb (ws:List Nat) (k:Nat) (hk:k<ws.length):jb (ws.drop k)=ws[k]?.getD 0+B9*jb (ws.drop (k+1)):=by
 rw[List.drop_eq_getElem_cons hk,List.getElem?_eq_getElem hk];rfl
theorem xU (ws:List Nat) (k:Nat) (hk:k≤ws.length):jb ws=jb (ws.take k)+B9^k*jb (ws.drop k):=by
 conv=>lhs;rw[←List.take_append_drop k ws]
 rw[JZ,List.length_take,Nat.min_eq_left hk]
theorem U2 {ws:List Nat} (hn:kn ws) (hok:jF ws) {k:Nat} (hk:k<ws.length):0<jb (ws.drop k):=by
 rcases Nat.eq_zero_or_pos (jb (ws.drop k)) with h | h
 ·have h1:=JW hn (by intro e;subst e;simp at hk)
  have h2:=xU ws k (by omega);rw[h,Nat.mul_zero] at h2;have h3:=qB (zQ hok k);rw[List.length_take,Nat.min_eq_left (by omega)] at h3;have h4:B9^k≤B9^(ws.length-1):=Nat.pow_le_pow_right (by decide) (by omega);omega
 ·exact h
def yA (ws:List Nat) (k:Nat) (acc:List UInt8):Prop:=acc=decDigits (jb (ws.drop k))
theorem yA.step {ws:List Nat} {k:Nat} {acc:List UInt8} (hn:kn ws) (hok:jF ws) (hk:k+1<ws.length) (h:yA ws (k+1) acc):yA ws k (acc++qK 9 (ws[k]?.getD 0)):=by
 unfold yA at h ⊢;have h1:=U2 hn hok hk;have h2:=kJ hok k;rw[yb ws k (by omega),Nat.add_comm,Nat.mul_comm,h];exact(UO 9 _ _ h1 h2).symm
theorem yA.len {ws:List Nat} {k:Nat} {acc:List UInt8} (hok:jF ws) (h:yA ws k acc):acc.length≤9*ws.length+1:=by
 unfold yA at h;rw[h,decDigits_length];refine Jx _ _ ?_;have h1:=qB (ws:=ws.drop k) (fun x hx=>hok x (List.mem_of_mem_drop hx));have h2:B9^(ws.drop k).length≤B9^ws.length:=Nat.pow_le_pow_right (by decide) (by rw[List.length_drop];omega)
 have h3:B9^ws.length=10^(9*ws.length):=by rw[Nat.pow_mul]
 have h4:10^(9*ws.length)≤10^(9*ws.length+1):=Nat.pow_le_pow_right (by decide) (by omega);omega
theorem Kq (v:Value) (x:Int) (w:World) (h:Ri w v x):
  Calls Tryz.prog 182 #[v] w (kT (za x) w):=by
 obtain⟨dv,ws,rfl,hv,hok,hn,hs⟩:=h;obtain⟨A,c,rfl,hc1,hc2⟩:=hs.form;rw[kg] at hc1 hc2 hs ⊢;have hb:Below w.heap.size w (w.alloc (.cells #[.bool (decide (x<0)),.slice A ws.length c] 127)):=(Below.refl _ _).alloc (Nat.le_refl _) _;have HB0:=hid hb;have HOw:Hid (ja (w.alloc (.cells #[.bool (decide (x<0)),.slice A ws.length c] 127)) w.heap.size 127 [.bool (decide (x<0)),.slice A ws.length c]):=hid (ja.make _ _ _);have HN:=hid hn;have HOK:=hid hok;have HV:=hid hv;clear hb hn hok hv;by_cases h0:ws=[]
 ·subst h0
  have hx:x=0:=by have:=HV.out;simp[jb] at this;omega
  have HE:Hid (za x=[48]):=hid (by rw[hx];unfold za;rw[if_neg (by decide)];exact decDigits_one (by decide));clear hx hs;generalize decide (x<0)=bx at *;go_enter Tryz.func182,Tryz.ntmps182
  go_wp2
  go_ret;exact⟨by rw[HE.out];rfl,HB0.out⟩
 ·obtain⟨m,hm⟩:∃m,ws.length=m+1:=⟨ws.length-1,by have:=List.length_pos_iff.2 h0;omega⟩
  clear h0;obtain⟨b,off,rfl,hblt,hcell⟩:=hs.at_ (k:=m) (by rw[kg];omega);have HC:Hid (∀j,j<ws.length→w.cell? ⟨b,off+j,none⟩=some (.int .i64 ((ws[j]?.getD 0:Nat):Int))):=hid (fun j hj=>by rw[hcell j (by rw[kg];omega),qf ws j hj]);clear hcell hs;generalize hbx:decide (x<0)=bx at *;have HX:=hid hbx;clear hbx;have ck:=HC.out m (by omega)
  have hmb:(m:Int)≤140737488355328:=by omega
  have HT0:Hid (yA ws m (decDigits (ws[m]?.getD 0))):=hid (by
   unfold yA
   rw[yb ws m (by omega),List.drop_of_length_le (by omega)];simp[jb])
  have D1:=hid (fun w=>Ys (ws[m]?.getD 0) w (by have:=kJ HOK.out m;unfold B9 at this;omega));have HL1:Hid ((decDigits (ws[m]?.getD 0)).length≤9*ws.length+1):=hid (HT0.out.len HOK.out);generalize ws[m]?.getD 0=top at *;clear hc2;rw[hm] at hc1 HOw HB0 HL1 ⊢;have HM:=hid hm;clear hm;go_enter Tryz.func182,Tryz.ntmps182
  go_wp2_with fail
  refine(D1.out _).mono ?_;clear D1;rintro e w1 ⟨rfl,hB1⟩;have HO1:=hid (HOw.out.below hB1 HOw.out.lt);have HB1:=hid (HB0.out.trans (hB1.mono HB0.out.size));obtain⟨c0,c1,f0,f1⟩:=HO1.out.two;clear hB1 ck
  go_wp2_with fail
  go_loopg [3,4] m (fun g s i wr=>∃acc:List UInt8,s = .string ⟨acc.toArray⟩∧i = .int .i64 ((g:Int)-1)∧(g:Int)≤(m:Int)∧Hid (yA ws g acc)∧Hid (ja wr w.heap.size 127 [.bool bx,.slice (some ⟨b,off,none⟩) (m+1) c])∧Hid (Below w.heap.size w wr))
  case atStart=>exact⟨_,rfl,by go_num,Int.le_refl _,HT0,HO1,HB1⟩
  case round=>
   obtain⟨acc,rfl,rfl,hgm,hT,hO,hB⟩:=hrel;clear c0 c1 f0 f1;obtain⟨c0,c1,f0,f1⟩:=hO.out.two;have hal:=hid (hT.out.len HOK.out)
   have hal2:acc.length≤2266637395197953:=by have h1:=hal.out;have h2:=HM.out;omega
   cases gk with
   | zero=>
    have hin:¬((0:Int)≤((0:Nat):Int)-1):=by omega
    have HE:Hid (acc=decDigits x.natAbs):=hid (by have:=hT.out;unfold yA at this;rw[this,List.drop_zero,HV.out]);clear hT hal;have HBT:=hid hB.out
    cases bx with
    | true=>
     have HE2:Hid (za x=45::acc):=hid (by unfold za;rw[if_pos (of_decide_eq_true HX.out),HE.out];rfl)
     go_wp2
     go_ret;exact⟨by rw[HE2.out,←KE];rfl,HBT.out⟩
    | false=>
     have HE2:Hid (za x=acc):=hid (by unfold za;rw[if_neg (of_decide_eq_false HX.out),HE.out];rfl)
     go_wp2
     go_ret;exact⟨by rw[HE2.out];rfl,HBT.out⟩
   | succ gh=>
    have hgm2:gh<m:=by omega
    have ck:=(hB.out.cell (p:=⟨b,off+gh,none⟩) hblt).trans (HC.out gh (by have:=HM.out;omega));have HS:=hid (hT.out.step HN.out HOK.out (by have:=HM.out;omega));have D9:=hid (fun w=>SC (ws[gh]?.getD 0) w (kJ HOK.out gh));have HPL:(qK 9 (ws[gh]?.getD 0)).length=9:=Ba _ _
    have hin:(0:Int)≤((gh+1:Nat):Int)-1:=by omega
    have hbs:=hB.out.size
    have hbl:b<wr.heap.size:=by omega
    clear hT;generalize ws[gh]?.getD 0=dg at *
    go_wp2_with fail
    refine(D9.out _).mono ?_;rintro e w2 ⟨rfl,hB2⟩;have HO3:=hid (hO.out.below hB2 hO.out.lt);have HB3:=hid (hB.out.trans (hB2.mono hbs));clear hB2 c0 c1 f0 f1
    go_wp2
    go_roundg gh
    case rel=>exact⟨_,by rw[ByteArray.mk_append_mk],by go_num,by omega,HS,HO3,HB3⟩
    case measure=>omega
def yu (l:List UInt8) (m:Nat) (ws:List Nat):Prop:=jF ws∧jb ws+B9^ws.length*jf (l.take m)=jf l∧9*ws.length+m=l.length
theorem yu.start (l:List UInt8):yu l l.length []:=⟨JY,by simp[jb],by simp⟩
theorem UP {l:List UInt8} (h:j3 l) (hl:l.length≤9):jf l<B9:=by
 have h1:=qP h;have h2:10^l.length≤10^9:=Nat.pow_le_pow_right (by decide) hl;unfold B9;omega
theorem yu.step {l:List UInt8} {m:Nat} {ws:List Nat} (hd:j3 l) (h:yu l (m+9) ws):yu l m (ws++[jf ((l.take (m+9)).drop m)]):=by
 obtain⟨h1,h2,h3⟩:=h
 have hl:((l.take (m+9)).drop m).length=9:=by rw[List.length_drop,List.length_take];omega
 have hs:l.take (m+9)=l.take m++(l.take (m+9)).drop m:=by
  conv=>lhs;rw[←List.take_append_drop m (l.take (m+9))]
  rw[List.take_take,Nat.min_eq_left (by omega)]
 have hv:jf (l.take (m+9))=jf (l.take m)*B9+jf ((l.take (m+9)).drop m):=by
  conv=>lhs;rw[hs]
  rw[Jo,hl]
 refine⟨JX.2 ⟨h1,Jm.2 (UP (X8 (Jl hd _) _) (by omega))⟩,?_,by simp;omega⟩;rw[hv] at h2;rw[zR,List.length_append,List.length_singleton,Nat.pow_succ,←h2,Nat.mul_add,Nat.mul_assoc,Nat.mul_comm B9 (jf _)];omega
theorem yu.last {l:List UInt8} {m:Nat} {ws:List Nat} (hd:j3 l) (h:yu l m ws) (hm:m≤9):jF (ws++[jf (l.take m)])∧jb (ws++[jf (l.take m)])=jf l:=by
 obtain⟨h1,h2,h3⟩:=h;exact⟨JX.2 ⟨h1,Jm.2 (UP (Jl hd _) (by rw[List.length_take];omega))⟩,by rw[zR];exact h2⟩
def Wo (l:List UInt8) (base m:Nat) (w:World) (t:ByteArray) (v:Value) (wr:World):Prop:=∃ws:List Nat,t.data.toList=l.take m∧yu l m ws∧wr.ownsRow (base+1) 3 1 v ws.length (jo ws)∧ja wr base 127 [.bool false,.slice none 0 0]∧Below w.heap.size w wr
theorem yu.len {l:List UInt8} {m:Nat} {ws:List Nat} (h:yu l m ws) (hl:l.length≤9000000):ws.length≤1000000:=by have:=h.2.2;omega
theorem Wq (neg:Bool) (s t0:ByteArray) (l:List UInt8) (w:World) (h0:0<s.size) (hc:(((s[0]'h0).toNat:Int)==45)=neg) (ht:(if neg=true then s.extract 1 s.size else s)=t0) (hs:t0.data.toList=l) (hz:(s.size:Int)=t0.size+(if neg=true then 1 else 0)) (hd:j3 l) (hl0:0<l.length) (hl:l.length≤9000000):
  Calls Tryz.prog 174 #[.string s] w (kQ (sg neg (jf l)) w):=by
 obtain⟨i0,hi,hz0,hz1,hz2⟩:=info_parts y9
 obtain⟨N,r,hN,hr1,hr9⟩:∃N r,l.length=9*N+r∧1≤r∧r≤9:=⟨(l.length-1)/9,l.length-9*((l.length-1)/9),by omega,by omega,by omega⟩
 have hsz:t0.size=9*N+r:=by rw[←hN,←hs];simp
 have HD:=hid hd;have HLL:=hid hl;have HTE:=hid ht
 have hszI:(s.size:Int)≤9000001:=by rw[hz];split <;> omega
 have h0I:(0:Int)<(s.size:Int):=by omega
 have hneg1:neg=true→(1:Int)≤(s.size:Int):=fun _=>by omega
 have HST:Hid (Wo l w.heap.size (9*N+r) w t0 (.slice none 0 0) (w.alloc (.cells #[.bool false,.slice none 0 0] 127))):=hid ⟨[],by rw[hs,←hN,List.take_of_length_le (Nat.le_refl _)],by rw[←hN];exact yu.start l,World.ownsRow_nil _ _ _ _,ja.make _ _ _,(Below.refl _ _).alloc (Nat.le_refl _) _⟩;have HSZ:Hid (t0.size=9*N+r):=hid hsz;have HNN:Hid (l.length=9*N+r):=hid hN;clear hsz hN hd hl ht hs hz hl0;cases neg
 case' true=>rw[if_pos rfl] at HTE
 case' false=>rw[if_neg (by decide)] at HTE;have HTE2:=HTE.out;clear HTE;subst HTE2
 all_goals (
  go_enter Tryz.func174,Tryz.ntmps174
  go_wp2_with fail
  try rw[HTE.out]
  go_loopg [0,4] N (fun g u v wr=>∃t:ByteArray,u = .string t∧Hid (t.size=9*g+r)∧g≤N∧Hid (Wo l w.heap.size (9*g+r) w t v wr))
  case atStart=>exact⟨_,rfl,HSZ,Nat.le_refl _,HST⟩
  case round=>
   obtain⟨t,rfl,htz,hgN,hR⟩:=hrel;obtain⟨ws,hT,hI,hO,hOw,hB⟩:=hR.out;have hwl:=hI.len HLL.out;have hsB:=hB.size;have HI:=hid hI;have HT:=hid hT;have HO:=hid hO;have HOw:=hid hOw;have HB:=hid hB;clear hR hI hT hO hOw hB
   cases gk with
   | zero=>
    have hin:¬(9:Int)<(t.size:Int):=by have:=htz.out;omega
    have htI:t.size≤18:=by have:=htz.out;omega
    have V:Hid (Calls Tryz.prog 180 #[.string t] wr (xG (jf (l.take (9*0+r))) wr)):=hid (by have h:=Qo t wr htI (by rw[HT.out];exact Jl HD.out _);rw[HT.out] at h;exact h);have HLA:=hid (HI.out.last HD.out (by omega));generalize jf (l.take (9*0+r))=dv at *;clear htI
    go_wp2_with fail
    refine V.out.mono ?_;rintro e w1 ⟨rfl,rfl⟩
    go_wp2_with (at_builtin;(refine wpList_append_own _ rfl _ _ 50 rfl (w.heap.size+1) 3 i0 (.int .i64 0) 1 8 Tryz.underlying50 hi hz0 hz1 hz2 rfl (by decide) _ _ _ rfl (HO.out.alloc _) ⟨wr.heap.size,0,none⟩ 1 1 [.int .i64 (dv:Int)] rfl rfl (cell_one_new _ _ _) (fun x hx=>by simp at hx;subst hx;rfl) (by unfold maxLen;omega) (by omega) (by simp;omega) ?_;intro v' w1 hown' hgrow _))
    rw[←xX] at hown';have HSL:=hid (zE hown' (by omega));have HOw':Hid (ja w1 w.heap.size 127 [.bool false,.slice none 0 0]):=hid ((HOw.out.alloc _).grown hgrow (fun e=>by have:=(HO.out.lt _ e).1;omega));have HB':=hid (Below.grown (HB.out.alloc hsB (.cells #[.int .i64 (dv:Int)] 3)) hgrow (by simp;omega) (fun j hj=>by have:=(HO.out.lt _ hj).1;omega));clear hown' hgrow
    go_wp2_with fail
    refine(xB _ v' (ws++[dv]) w1 HLA.out.1 HSL.out).mono ?_;rintro e w2 ⟨rv,rfl,hri,hB2⟩;rw[HLA.out.2] at hri;obtain⟨RA,rn,rc,rfl,hr1,hr2⟩:=hri.open_;generalize hbz:decide (sg _ (jf l)<0)=bz at *;have HO2:=hid (HOw'.out.below hB2 HOw'.out.lt);obtain⟨c0,c1,f0,f1⟩:=HO2.out.two;have HRF:=hid (hri.put2 (a':= .bool bz) (b':= .slice RA rn rc) HO2.out (js _) (jq _ _ _) (js _));have HBF:Hid (Below w.heap.size w ((w2.setCell ⟨w.heap.size,0,none⟩ (.bool bz)).setCell ⟨w.heap.size,1,none⟩ (.slice RA rn rc))):=hid (((HB'.out.trans (hB2.mono HB'.out.size)).setCell (p:=⟨w.heap.size,0,none⟩) (Nat.le_refl _) _).setCell (p:=⟨w.heap.size,1,none⟩) (Nat.le_refl _) _);clear hri hB2 hbz
    go_wp2
    obtain⟨z0,z1,_,_⟩:=(HO2.out.set2 (a':= .bool bz) (b':= .slice RA rn rc)).two;exact bodyPost_ret (v:= .agg #[.bool bz,.slice RA rn rc]) (by simp[results,Tryz.results174,go_sem,z0,z1]) rfl ⟨_,rfl,HRF.out,HBF.out⟩
   | succ g=>
    have hin:(9:Int)<(t.size:Int):=by have:=htz.out;omega
    have h9m:9*(g+1)+r=9*g+r+9:=by omega
    rw[h9m] at HI HT htz;have E1:Hid ((t.extract (t.size-9) t.size).data.toList=(l.take (9*g+r+9)).drop (9*g+r)):=hid (by rw[xI HT.out,htz.out,List.take_take,Nat.min_eq_left (Nat.le_refl _)];congr 1);have E2:Hid ((t.extract 0 (t.size-9)).data.toList=l.take (9*g+r)):=hid (by rw[xI HT.out,htz.out,List.take_take,List.drop_zero];congr 1;omega);have E3:Hid ((t.extract 0 (t.size-9)).size=9*g+r):=hid (by rw[kC E2.out,List.length_take];have:=HI.out.2.2;omega)
    have V:Hid (Calls Tryz.prog 180 #[.string (t.extract (t.size-9) t.size)] wr (xG (jf ((l.take (9*g+r+9)).drop (9*g+r))) wr)):=hid (by
     have h:=Qo (t.extract (t.size-9) t.size) wr (by rw[kC E1.out,List.length_drop,List.length_take];omega) (by rw[E1.out];exact X8 (Jl HD.out _) _)
     rw[E1.out] at h;exact h)
    have HS:=hid (HI.out.step HD.out);generalize jf ((l.take (9*g+r+9)).drop (9*g+r))=dv at *
    have htu:(t.size:Int)≤9000009:=by have:=htz.out;have:=HNN.out;have:=HLL.out;omega
    clear h9m
    go_wp2_with fail
    refine V.out.mono ?_;rintro e w1 ⟨rfl,rfl⟩
    go_wp2_with (at_builtin;(refine wpList_append_own _ rfl _ _ 50 rfl (w.heap.size+1) 3 i0 (.int .i64 0) 1 8 Tryz.underlying50 hi hz0 hz1 hz2 rfl (by decide) _ _ _ rfl (HO.out.alloc _) ⟨wr.heap.size,0,none⟩ 1 1 [.int .i64 (dv:Int)] rfl rfl (cell_one_new _ _ _) (fun x hx=>by simp at hx;subst hx;rfl) (by unfold maxLen;omega) (by omega) (by simp;omega) ?_;intro v' w1 hown' hgrow _))
    have HO':Hid (w1.ownsRow (w.heap.size+1) 3 1 v' (ws++[dv]).length (jo (ws++[dv]))):=hid (by rw[xX,List.length_append,List.length_singleton];exact hown');have HOw':Hid (ja w1 w.heap.size 127 [.bool false,.slice none 0 0]):=hid ((HOw.out.alloc _).grown hgrow (fun e=>by have:=(HO.out.lt _ e).1;omega));have HB':=hid (Below.grown (HB.out.alloc hsB (.cells #[.int .i64 (dv:Int)] 3)) hgrow (by simp;omega) (fun j hj=>by have:=(HO.out.lt _ hj).1;omega));clear hown' hgrow
    go_wp2
    go_roundg g
    case rel=>exact⟨_,rfl,E3,by omega,hid ⟨_,E2.out,HS.out,HO'.out,HOw'.out,HB'.out⟩⟩
    case measure=>omega)
theorem Zh (neg:Bool) (s:ByteArray) (l:List UInt8) (w:World) (hs:s.data.toList=(if neg=true then [45] else [])++l) (hd:j3 l) (hl0:0<l.length) (hl:l.length≤9000000):
  Calls Tryz.prog 174 #[.string s] w (kQ (sg neg (jf l)) w):=by
 have hz:=kC hs;rw[List.length_append] at hz
 have h0:0<s.size:=by omega
 cases neg with
 | true=>
  have hs':s.data.toList=45::l:=hs
  have e:(s.extract 1 s.size).data.toList=l:=by rw[xI hs',kC hs',List.take_of_length_le (Nat.le_refl _)];rfl
  refine Wq true s (s.extract 1 s.size) l w h0 (by rw[KM hs' h0];rfl) (if_pos rfl) e ?_ hd hl0 hl;rw[kC e,if_pos rfl,kC hs'];simp
 | false=>
  have hs':s.data.toList=l:=by rw[hs];rfl
  refine Wq false s s l w h0 ?_ (if_neg (by decide)) hs' (by simp) hd hl0 hl;have hge:=xr s 0 h0;exact Za (hd _ (by rw[←hs'];exact List.mem_of_getElem? hge))
theorem QH {x:Nat} (h:jP x):(decDigits x).length≤9000001:=by
 rw[decDigits_length]
 have h2:B9^xw=10^(9*xw):=by rw[Nat.pow_mul]
 have h3:10^(9*xw)≤10^(9*xw+1):=Nat.pow_le_pow_right (by decide) (by omega);have h4:=Jx (9*xw) x (by unfold jP at h;rw[h2] at h;omega);have:=Xe;omega
theorem YQ {neg:Bool} {n:Nat} (h:neg=true→0<n):za (sg neg n)=(if neg then [45] else [])++decDigits n:=by
 unfold za;rw[Ki]
 cases neg with
 | true=>
  have:=h rfl;rw[if_pos (by unfold sg;rw[if_pos rfl];omega),if_pos rfl]
 | false=>rw[if_neg (by unfold sg;rw[if_neg (by decide)];omega),if_neg (by decide)]
theorem VF (n:Nat):za (sg false n)=decDigits n:=by rw[YQ (by simp)];rfl
theorem Jb (x:Int) (d:Nat):(x:Rat)/((d:Int):Rat)=mkRat x d:=by
 rw[←Rat.divInt_eq_div];exact Rat.divInt_ofNat x d
theorem XC {q:Nat} {w:World} {v:Value} (h:Dg w v q) (h0:0<q) (h9:q≠1):
  (∃A n c,v = .slice A n c∧((n:Int)==1)=false∧n≤140737488355328)∨(∃b off c,v = .slice (some ⟨b,off,none⟩) 1 c∧b<w.heap.size∧w.cell? ⟨b,off,none⟩=some (.int .i64 (q:Int))∧((q:Int)==1)=false):=by
 rcases Nat.lt_or_ge q B9 with hq | hq
 ·obtain⟨b,off,c,rfl,hb,hc⟩:=h.one h0 hq
  exact .inr ⟨b,off,c,rfl,hb,hc,by simpa using (by omega:¬(q:Int)=1)⟩
 ·obtain⟨p,A,c,rfl,e1,o1,n1,l1,l2,s1⟩:=h.open_
  refine .inl ⟨A,p.length,c,rfl,?_,l2⟩
  have:p.length≠1:=by
   intro hl;have h1:=qB o1;rw[hl,Nat.pow_one] at h1;omega
  simpa using (by omega:¬(p.length:Int)=1)
structure Kn (B P top u2 v1 v2 U V:Nat):Prop where
 lo:(top*B+u2)*P≤U
 hi:U<(top*B+u2+1)*P
 vlo:(v1*B+v2)*P≤V
 vhi:V<(v1*B+v2+1)*P
 v2lt:v2<B
 u2lt:u2<B
 lt:U<B*V
 norm:B≤2*v1
theorem Kn.pos {B P top u2 v1 v2 U V:Nat} (h:Kn B P top u2 v1 v2 U V):0<P:=by
 rcases Nat.eq_zero_or_pos P with h0 | h0
 ·have:=h.hi;rw[h0] at this;omega
 ·exact h0
theorem Kn.top_le {B P top u2 v1 v2 U V:Nat} (h:Kn B P top u2 v1 v2 U V):top≤v1*B+v2:=by
 have h1:(top*B+u2)*P<(B*(v1*B+v2+1))*P:=by
  have h2:B*V<B*((v1*B+v2+1)*P):=Nat.mul_lt_mul_of_pos_left h.vhi (by have:=h.v2lt;omega);have:=h.lo;have:=h.lt;rw[Nat.mul_assoc];omega
 have h2:=Nat.lt_of_mul_lt_mul_right h1
 have h3:B*top<B*(v1*B+v2+1):=by rw[Nat.mul_comm B top];omega
 have:=Nat.lt_of_mul_lt_mul_left h3;omega
theorem Kn.third {B P top u2 v1 v2 U V t r:Nat} (h:Kn B P top u2 v1 v2 U V) (e:top=t*v1+r) (ht:B<t):r+v1<B:=by
 have h1:=h.top_le;have h2:=h.v2lt;have h3:(B+1)*v1≤t*v1:=Nat.mul_le_mul_right _ ht;rw[Nat.add_mul,Nat.mul_comm B v1] at h3;omega
theorem Kn.over {B P top u2 v1 v2 U V t r:Nat} (h:Kn B P top u2 v1 v2 U V) (e:top=t*v1+r) (ht:r*B+u2<t*v2):U<t*V:=by
 have h1:top*B+u2+1≤t*(v1*B+v2):=by
  rw[e,Nat.add_mul,Nat.mul_add,←Nat.mul_assoc];omega
 have h2:(top*B+u2+1)*P≤t*(v1*B+v2)*P:=Nat.mul_le_mul_right _ h1;have h3:t*((v1*B+v2)*P)≤t*V:=Nat.mul_le_mul_left _ h.vlo;rw[←Nat.mul_assoc] at h3;have:=h.hi;omega
theorem Kn.good {B P top u2 v1 v2 U V t r:Nat} (h:Kn B P top u2 v1 v2 U V) (e:top=t*v1+r) (ht:t*v2≤r*B+u2) (hb:t<B):t*V<U+V:=by
 have h1:t*(v1*B+v2)≤top*B+u2:=by
  rw[e,Nat.add_mul,Nat.mul_add,←Nat.mul_assoc];omega
 have h2:t*(v1*B+v2)*P≤(top*B+u2)*P:=Nat.mul_le_mul_right _ h1;have h3:t*V≤t*((v1*B+v2+1)*P):=Nat.mul_le_mul_left _ (Nat.le_of_lt h.vhi)
 have h4:t*((v1*B+v2+1)*P)=t*(v1*B+v2)*P+t*P:=by
  rw[Nat.add_mul,Nat.mul_add,Nat.one_mul,←Nat.mul_assoc]
 have h5:t*P<B*P:=Nat.mul_lt_mul_of_pos_right hb h.pos;have h6:1*(B*P)≤v1*(B*P):=Nat.mul_le_mul_right _ (by have:=h.norm;omega);have h7:=h.vlo;rw[Nat.add_mul,Nat.mul_assoc] at h7;have:=h.lo;omega
theorem Kn.far {B P top u2 v1 v2 U V t r:Nat} (h:Kn B P top u2 v1 v2 U V) (hr:B≤r) (hb:t<B):t*v2≤r*B+u2:=by
 have h1:t*v2≤B*B:=Nat.mul_le_mul (Nat.le_of_lt hb) (Nat.le_of_lt h.v2lt);have h2:B*B≤r*B:=Nat.mul_le_mul_right _ hr;omega
def xQ (top v1 U V t r:Nat):Prop:=top=t*v1+r∧U<(t+1)*V
theorem Kn.start {B P top u2 v1 v2 U V:Nat} (h:Kn B P top u2 v1 v2 U V):xQ top v1 U V (top/v1) (top%v1):=by
 have hv:0<v1:=by have:=h.norm;have:=h.v2lt;omega
 have h0:=Nat.div_add_mod top v1;have hm:=Nat.mod_lt top hv;refine⟨by rw[Nat.mul_comm];exact h0.symm,?_⟩;generalize top/v1=t at *
 have h1:top+1≤(t+1)*v1:=by rw[Nat.add_mul,Nat.mul_comm t v1];omega
 have h2:(top+1)*B≤(t+1)*v1*B:=Nat.mul_le_mul_right _ h1
 have h3:top*B+u2+1≤(t+1)*v1*B:=by have:=h.u2lt;rw[Nat.add_mul] at h2;omega
 have h4:(top*B+u2+1)*P≤(t+1)*v1*B*P:=Nat.mul_le_mul_right _ h3;have h5:(t+1)*((v1*B+v2)*P)≤(t+1)*V:=Nat.mul_le_mul_left _ h.vlo
 have h6:(t+1)*v1*B*P≤(t+1)*((v1*B+v2)*P):=by
  rw[Nat.mul_assoc,Nat.mul_assoc,←Nat.mul_assoc v1 B P];exact Nat.mul_le_mul_left _ (Nat.mul_le_mul_right _ (Nat.le_add_right _ _))
 have:=h.hi;omega
theorem Kn.down {B P top u2 v1 v2 U V t r:Nat} (h:Kn B P top u2 v1 v2 U V) (hI:xQ top v1 U V t r) (ht:B≤t∨r*B+u2<t*v2):∃t',t=t'+1∧xQ top v1 U V t' (r+v1):=by
 have h1:U<t*V:=by
  rcases ht with ht | ht
  ·exact Nat.lt_of_lt_of_le h.lt (Nat.mul_le_mul_right _ ht)
  ·exact h.over hI.1 ht
 cases t with
 | zero=>rw[Nat.zero_mul] at h1;omega
 | succ t'=>
  refine⟨t',rfl,?_,h1⟩;have:=hI.1;rw[Nat.add_mul] at this;omega
def yp (B U V t:Nat):Prop:=t<B∧t*V<U+V∧U<(t+1)*V
theorem Kn.exit {B P top u2 v1 v2 U V t r:Nat} (h:Kn B P top u2 v1 v2 U V) (hI:xQ top v1 U V t r) (hb:t<B) (ht:t*v2≤r*B+u2):yp B U V t:=
 ⟨hb,h.good hI.1 ht hb,hI.2⟩
theorem Kn.exit_far {B P top u2 v1 v2 U V t r:Nat} (h:Kn B P top u2 v1 v2 U V) (hI:xQ top v1 U V (t+1) r) (hI2:xQ top v1 U V t (r+v1)) (hr:B≤r+v1):yp B U V t:=by
 have hb:t<B:=by
  rcases Nat.lt_or_ge t B with h1 | h1
  ·exact h1
  ·have:=h.third hI.1 (by omega);omega
 exact h.exit hI2 hb (h.far hr hb)
theorem Dr {us vs:List Nat} {j m:Nat} (hu:jF us) (hv:jF vs) (hl:vs.length=m+2) (hul:j+m+2<us.length) (hz:jb (us.drop (j+m+3))=0)
  (hlt:jb (us.drop j)<B9*jb vs) (hn:B9≤2*vs[m+1]?.getD 0):
  Kn B9 (B9^m) (us[j+m+2]?.getD 0*B9+us[j+m+1]?.getD 0) (us[j+m]?.getD 0) (vs[m+1]?.getD 0) (vs[m]?.getD 0) (jb (us.drop j)) (jb vs):=by
 have e1:jb (us.drop j)=jb ((us.drop j).take m)+B9^m*((us[j+m+2]?.getD 0*B9+us[j+m+1]?.getD 0)*B9+us[j+m]?.getD 0):=by
  rw[xU (us.drop j) m (by rw[List.length_drop];omega),List.drop_drop,yb us (j+m) (by omega),yb us (j+m+1) (by omega),yb us (j+m+1+1) (by omega),show j+m+1+1+1=j+m+3 from rfl,hz]
  congr 2
  show us[j+m]?.getD 0+B9*(us[j+m+1]?.getD 0+B9*(us[j+m+2]?.getD 0+B9*0))=_
  generalize us[j+m]?.getD 0=a;generalize us[j+m+1]?.getD 0=b;generalize us[j+m+2]?.getD 0=c;unfold B9;omega
 have e2:jb vs=jb (vs.take m)+B9^m*(vs[m+1]?.getD 0*B9+vs[m]?.getD 0):=by
  rw[xU vs m (by omega),yb vs m (by omega),yb vs (m+1) (by omega),List.drop_of_length_le (by omega)]
  congr 2
  simp only[jb];generalize vs[m]?.getD 0=a;generalize vs[m+1]?.getD 0=b;unfold B9;omega
 have b1:=qB (zQ (ws:=us.drop j) (fun x hx=>hu x (List.mem_of_mem_drop hx)) m);have b2:=qB (zQ hv m);have p1:B9^((us.drop j).take m).length≤B9^m:=Nat.pow_le_pow_right (by decide) (by rw[List.length_take];omega);have p2:B9^(vs.take m).length≤B9^m:=Nat.pow_le_pow_right (by decide) (by rw[List.length_take];omega);have q1:=kJ hu (j+m);have q2:=kJ hv m
 obtain⟨X,hX⟩:∃X,(us[j+m+2]?.getD 0*B9+us[j+m+1]?.getD 0)*B9+us[j+m]?.getD 0=X:=⟨_,rfl⟩
 obtain⟨Y,hY⟩:∃Y,vs[m+1]?.getD 0*B9+vs[m]?.getD 0=Y:=⟨_,rfl⟩
 rw[hX] at e1;rw[hY] at e2;refine⟨?_,?_,?_,?_,q2,q1,hlt,hn⟩
 ·rw[hX,e1,Nat.mul_comm];omega
 ·rw[hX,e1,Nat.mul_comm (X+1),Nat.mul_add,Nat.mul_one];omega
 ·rw[hY,e2,Nat.mul_comm];omega
 ·rw[hY,e2,Nat.mul_comm (Y+1),Nat.mul_add,Nat.mul_one];omega
def xp (vs L0 L:List Nat) (t j k br:Nat):Prop:=L.length=L0.length∧jF L∧L.take j=L0.take j∧L.drop (j+vs.length)=L0.drop (j+vs.length)∧br<B9 ∧
 jb L+B9^j*(jb (vs.take k)*t)=jb L0+B9^(j+k)*br
theorem xp.start {vs L0:List Nat} (t j:Nat) (h:jF L0):xp vs L0 L0 t j 0 0:=⟨rfl,h,rfl,rfl,by decide,by simp[jb]⟩
theorem xp.step {vs L0 L:List Nat} {t j k br d br':Nat} (h:xp vs L0 L t j k br) (hk:k<vs.length) (hlen:j+vs.length≤L0.length) (hd:d<B9) (hb:br'<B9)
  (he:d+vs[k]?.getD 0*t+br=L[j+k]?.getD 0+B9*br'):xp vs L0 (L.set (j+k) d) t j (k+1) br':=by
 obtain⟨h1,h2,h3,h4,h5,h6⟩:=h;refine⟨by simp[h1],zP h2 _ _ hd,by rw[JH _ _ _ _ (by omega)];exact h3,by rw[List.drop_set_of_lt (by omega)];exact h4,hb,?_⟩;have hs:=QK L (j+k) d (by omega);rw[QN vs,show j+(k+1)=(j+k)+1 from by omega,Nat.pow_succ]
 have e:B9^(j+k)*(d+vs[k]?.getD 0*t+br)=B9^(j+k)*(L[j+k]?.getD 0+B9*br'):=by rw[he]
 have e2:B9^j*(B9^k*vs[k]?.getD 0*t)=B9^(j+k)*(vs[k]?.getD 0*t):=by rw[Nat.pow_add,Nat.mul_assoc,Nat.mul_assoc]
 simp only[Nat.mul_add,Nat.add_mul,e2] at e hs h6 ⊢;rw[Nat.mul_assoc (B9^(j+k)) B9 br'];omega
theorem FL (z v t br:Nat) (hz:z<B9) (hv:v<B9) (ht:t<B9) (hb:br<B9):v*t+br<1000000000000000000 ∧
  (((v*t+br)%B9≤z→(v*t+br)/B9<B9∧z-(v*t+br)%B9<B9∧(z-(v*t+br)%B9)+v*t+br=z+B9*((v*t+br)/B9)) ∧
  (z<(v*t+br)%B9→(v*t+br)/B9+1<B9∧z+B9-(v*t+br)%B9<B9∧(z+B9-(v*t+br)%B9)+v*t+br=z+B9*((v*t+br)/B9+1))):=by
 have h1:v*t≤(B9-1)*(B9-1):=Nat.mul_le_mul (by omega) (by omega);generalize v*t=p at *;unfold B9 at *;omega
end Go.Proofs.YtneafcdfnhnpnaaGreatDoor
namespace Go.Proofs.YtneafcdfnhnpnaaGreatDoor
def BH:Nat:=4294967296
theorem zr:WB=BH*BH:=by unfold WB BH;rfl
theorem Xb {top u2 v1 v2:Nat} (h1:v2<BH) (h2:u2<BH) (h3:top*BH+u2<BH*(v1*BH+v2)) (h4:BH≤2*v1):Kn BH 1 top u2 v1 v2 (top*BH+u2) (v1*BH+v2):=
 ⟨by omega,by omega,by omega,by omega,h1,h2,h3,h4⟩
theorem ye {top u2 v1 v2 t r:Nat} (hI:xQ top v1 (top*BH+u2) (v1*BH+v2) t r) (ht:t*v2≤r*BH+u2):t*(v1*BH+v2)≤top*BH+u2∧top*BH+u2<(t+1)*(v1*BH+v2):=by
 refine⟨?_,hI.2⟩;rw[hI.1,Nat.mul_add,Nat.add_mul,←Nat.mul_assoc];omega
theorem Tz {hi lo y s V a b u1 u0 q1 q0 un21 q r:Nat} (hN:(hi*WB+lo)*s=(a*BH+u1)*BH+u0) (hV:V=y*s) (hs:0<s)
  (e1:a*BH+u1=q1*V+un21) (e2:un21*BH+u0=q0*V+b) (hb:b<V) (h:hi*WB+lo=q*y+r) (hr:r<y):q1*BH+q0=q∧b/s=r:=by
 have h1:(hi*WB+lo)*s=(q1*BH+q0)*V+b:=by
  rw[hN,e1,Nat.add_mul,Nat.add_assoc,e2,Nat.add_mul]
  have:q1*V*BH=q1*BH*V:=by rw[Nat.mul_assoc,Nat.mul_comm V,←Nat.mul_assoc]
  omega
 rw[h,hV,Nat.add_mul,Nat.mul_assoc] at h1;rw[hV] at hb
 have hy:0<y*s:=by omega
 have hrs:r*s<y*s:=Nat.mul_lt_mul_of_pos_right hr hs
 have d1:(q*(y*s)+r*s)/(y*s)=q:=by
  rw[Nat.mul_comm q,Nat.mul_add_div hy,Nat.div_eq_of_lt hrs];omega
 have d2:((q1*BH+q0)*(y*s)+b)/(y*s)=q1*BH+q0:=by
  rw[Nat.mul_comm (q1*BH+q0),Nat.mul_add_div hy,Nat.div_eq_of_lt hb];omega
 rw[h1,d2] at d1;refine⟨d1,?_⟩;rw[d1] at h1
 have:b=r*s:=by omega
 rw[this,Nat.mul_div_cancel _ hs]
end Go.Proofs.YtneafcdfnhnpnaaGreatDoor
namespace Go.Proofs.YtneafcdfnhnpnaaGreatDoor
open Go.RowKit Go.Lib
def Dv (us vs L Q:List Nat) (g:Nat):Prop:=L.length=us.length∧jF L∧Q.length+vs.length=us.length∧jF Q∧jb (L.drop g)<jb vs∧jb us=jb L+jb vs*(B9^g*jb (Q.drop g))
theorem Rs (n:Nat):jb (List.replicate n 0)=0:=by
 induction n with
 | zero=>rfl
 | succ n ih=>simp[List.replicate_succ,jb,ih]
theorem Dv.start {us vs:List Nat} {M:Nat} (ou:jF us) (hl:M+vs.length=us.length) (h:jb (us.drop M)<jb vs):Dv us vs us (List.replicate M 0) M:=by
 refine⟨rfl,ou,by simp[hl],QI _,h,?_⟩;simp[jb]
theorem Dv.above {us vs L Q:List Nat} {j:Nat} (h:Dv us vs L Q (j+1)) (ov:jF vs):jb (L.drop (j+vs.length+1))=0:=by
 obtain⟨h1,h2,h3,h4,h5,h6⟩:=h;have hv:=qB ov;rcases Nat.lt_or_ge (L.drop (j+1)).length vs.length with hl | hl
 ·rw[List.drop_of_length_le (by rw[List.length_drop] at hl;omega)];rfl
 ·have h7:=xU (L.drop (j+1)) vs.length hl
  rw[List.drop_drop,show j+1+vs.length=j+vs.length+1 from by omega] at h7;generalize jb (L.drop (j+vs.length+1))=X at *;rcases Nat.eq_zero_or_pos X with h0 | h0
  ·exact h0
  ·have:B9^vs.length*1≤B9^vs.length*X:=Nat.mul_le_mul_left _ h0
   omega
theorem Dv.lt {us vs L Q:List Nat} {j:Nat} (h:Dv us vs L Q (j+1)) (hj:j<L.length):jb (L.drop j)<B9*jb vs:=by
 rw[yb L j hj];have h1:=kJ h.2.1 j;have h2:=h.2.2.2.2.1;have h3:B9*(jb (L.drop (j+1))+1)≤B9*jb vs:=Nat.mul_le_mul_left _ h2;rw[Nat.mul_add,Nat.mul_one] at h3;omega
theorem Dv.step {us vs L Q N:List Nat} {j t:Nat} (h:Dv us vs L Q (j+1)) (hj:j<Q.length) (hN:N.length=L.length) (oN:jF N) (hT:N.take j=L.take j)
  (e:jb (L.drop j)=jb vs*t+jb (N.drop j)) (hr:jb (N.drop j)<jb vs) (ht:t<B9):Dv us vs N (Q.set j t) j:=by
 obtain⟨h1,h2,h3,h4,h5,h6⟩:=h;refine⟨by omega,oN,by simpa using h3,zP h4 _ _ ht,hr,?_⟩;rw[h6,Jr (Q.set j t) j (by simpa using hj),Jt _ _ _ hj,List.drop_set_of_lt (by omega),xU L j (by omega),xU N j (by omega),hT,e];simp only[jb];rw[Nat.pow_succ];simp only[Nat.mul_add]
 have q1:jb vs*(B9^j*B9*jb (List.drop (j+1) Q))=jb vs*(B9^j*(B9*jb (List.drop (j+1) Q))):=by rw[Nat.mul_assoc (B9^j)]
 have q2:B9^j*(jb vs*t)=jb vs*(B9^j*t):=by rw[←Nat.mul_assoc,Nat.mul_comm (B9^j),Nat.mul_assoc]
 omega
theorem Dv.last {us vs L Q:List Nat} (h:Dv us vs L Q 0):jb Q=jb us/jb vs∧jb L=jb us%jb vs:=by
 obtain⟨h1,h2,h3,h4,h5,h6⟩:=h;simp only[List.drop_zero,Nat.pow_zero,Nat.one_mul] at h5 h6
 have hp:0<jb vs:=by omega
 rw[h6];refine⟨?_,?_⟩
 ·rw[Nat.add_mul_div_left _ _ hp,Nat.div_eq_of_lt h5,Nat.zero_add]
 ·rw[Nat.add_mul_mod_self_left,Nat.mod_eq_of_lt h5]
theorem XL {L:List Nat} {j n:Nat} (hj:j+n<L.length) (h0:jb (L.drop (j+n+1))=0):jb (L.drop j)=jb ((L.drop j).take n)+B9^n*L[j+n]?.getD 0:=by
 rw[xU (L.drop j) n (by rw[List.length_drop];omega),List.drop_drop,yb L (j+n) hj,h0];simp
theorem ZR {L:List Nat} (h:jF L) (j n:Nat):jb ((L.drop j).take n)<B9^n:=by
 have h1:=qB (zQ (ws:=L.drop j) (fun x hx=>h x (List.mem_of_mem_drop hx)) n);have h2:B9^((L.drop j).take n).length≤B9^n:=Nat.pow_le_pow_right (by decide) (by rw[List.length_take];omega);omega
theorem Ml {L:List Nat} {j n x:Nat} (hj:j+n<L.length) (h0:jb (L.drop (j+n+1))=0):jb ((L.set (j+n) x).drop j)=jb ((L.drop j).take n)+B9^n*x:=by
 rw[XL (L:=L.set (j+n) x) (by simpa using hj) (by rw[List.drop_set_of_lt (by omega)];exact h0),Jt L _ _ hj]
 congr 2
 rw[List.drop_set,if_neg (by omega),show j+n-j=n from by omega,List.take_set_of_le (Nat.le_refl _)]
theorem GJ {L L':List Nat} {j X Y:Nat} (hl:L'.length=L.length) (ht:L'.take j=L.take j) (hj:j≤L.length) (h:jb L'+B9^j*X=jb L+B9^j*Y):jb (L'.drop j)+X=jb (L.drop j)+Y:=by
 rw[xU L' j (by omega),xU L j hj,ht] at h
 have h1:B9^j*(jb (L'.drop j)+X)=B9^j*(jb (L.drop j)+Y):=by rw[Nat.mul_add,Nat.mul_add];omega
 exact Nat.eq_of_mul_eq_mul_left (Nat.pow_pos (by decide)) h1
theorem U1 {L L':List Nat} {a:Nat} (h:L'.drop a=L.drop a):L'[a]?.getD 0=L[a]?.getD 0∧jb (L'.drop (a+1))=jb (L.drop (a+1)):=by
 have e1:(L'.drop a)[0]?.getD 0=(L.drop a)[0]?.getD 0:=by rw[h]
 have e2:(L'.drop a).drop 1=(L.drop a).drop 1:=by rw[h]
 simp only[List.drop_drop,List.getElem?_drop,Nat.add_zero] at e1 e2;exact⟨e1,by rw[e2]⟩
theorem xp.main {vs L L':List Nat} {t j br:Nat} (h:xp vs L L' t j vs.length br) (hj:j+vs.length<L.length) (h0:jb (L.drop (j+vs.length+1))=0):
  jb ((L'.drop j).take vs.length)+B9^vs.length*L[j+vs.length]?.getD 0+jb vs*t=jb (L.drop j)+B9^vs.length*br∧jb (L'.drop (j+vs.length+1))=0∧L'[j+vs.length]?.getD 0=L[j+vs.length]?.getD 0:=by
 obtain⟨h1,h2,h3,h4,h5,h6⟩:=h;obtain⟨d1,d2⟩:=U1 h4;rw[List.take_of_length_le (Nat.le_refl _),Nat.pow_add,Nat.mul_assoc] at h6;have h7:=GJ h1 h3 (by omega) h6;rw[XL (L:=L') (j:=j) (n:=vs.length) (by omega) (by rw[d2];exact h0),d1] at h7;exact⟨h7,by rw[d2];exact h0,d1⟩
theorem xp.fit {vs L L':List Nat} {t j br:Nat} (h:xp vs L L' t j vs.length br) (ov:jF vs) (hj:j+vs.length<L.length) (h0:jb (L.drop (j+vs.length+1))=0) (hD:yp B9 (jb (L.drop j)) (jb vs) t) (hge:br≤L[j+vs.length]?.getD 0):
  L[j+vs.length]?.getD 0=br∧jb (L.drop j)=jb vs*t+jb ((L'.set (j+vs.length) 0).drop j)∧jb ((L'.set (j+vs.length) 0).drop j)<jb vs:=by
 obtain⟨e,e0,e1⟩:=h.main hj h0;have hl:L'.length=L.length:=h.1;rw[Ml (by omega) e0,Nat.mul_zero,Nat.add_zero];obtain⟨d1,d2,d3⟩:=hD;rw[Nat.add_mul,Nat.one_mul,Nat.mul_comm t] at d3;have hv:=qB ov;generalize L[j+vs.length]?.getD 0=z at *;generalize jb ((L'.drop j).take vs.length)=W at *
 have hz:z=br:=by
  rcases Nat.lt_or_ge br z with h1 | h1
  ·have:B9^vs.length*(br+1)≤B9^vs.length*z:=Nat.mul_le_mul_left _ h1
   rw[Nat.mul_add] at this;omega
  ·omega
 subst hz;omega
theorem xp.over {vs L L':List Nat} {t j br:Nat} (h:xp vs L L' t j vs.length br) (ov:jF vs) (hj:j+vs.length<L.length) (h0:jb (L.drop (j+vs.length+1))=0) (hD:yp B9 (jb (L.drop j)) (jb vs) t) (hlt:L[j+vs.length]?.getD 0<br):
  L[j+vs.length]?.getD 0+1=br∧1≤t:=by
 obtain⟨e,e0,e1⟩:=h.main hj h0;obtain⟨d1,d2,d3⟩:=hD;have hv:=qB ov;have hW:=ZR h.2.1 j vs.length;rw[Nat.mul_comm t] at d2;generalize L[j+vs.length]?.getD 0=z at *;generalize jb ((L'.drop j).take vs.length)=W at *;refine⟨?_,?_⟩
 ·rcases Nat.lt_or_ge (z+1) br with h1 | h1
  ·have:B9^vs.length*(z+2)≤B9^vs.length*br:=Nat.mul_le_mul_left _ h1
   rw[Nat.mul_add] at this;omega
  ·omega
 ·rcases Nat.eq_zero_or_pos t with ht | ht
  ·subst ht
   have:B9^vs.length*(z+1)≤B9^vs.length*br:=Nat.mul_le_mul_left _ hlt;rw[Nat.mul_add] at this;omega
  ·exact ht
def xZ (vs L0 L:List Nat) (j k c:Nat):Prop:=L.length=L0.length∧jF L∧L.take j=L0.take j∧L.drop (j+vs.length)=L0.drop (j+vs.length)∧c≤1 ∧
 jb L+B9^(j+k)*c=jb L0+B9^j*jb (vs.take k)
theorem xZ.start {vs L0:List Nat} (j:Nat) (h:jF L0):xZ vs L0 L0 j 0 0:=⟨rfl,h,rfl,rfl,by omega,by simp[jb]⟩
theorem xZ.step {vs L0 L:List Nat} {j k c d c':Nat} (h:xZ vs L0 L j k c) (hk:k<vs.length) (hlen:j+vs.length≤L0.length) (hd:d<B9) (hc:c'≤1)
  (he:d+B9*c'=L[j+k]?.getD 0+vs[k]?.getD 0+c):xZ vs L0 (L.set (j+k) d) j (k+1) c':=by
 obtain⟨h1,h2,h3,h4,h5,h6⟩:=h;refine⟨by simp[h1],zP h2 _ _ hd,by rw[JH _ _ _ _ (by omega)];exact h3,by rw[List.drop_set_of_lt (by omega)];exact h4,hc,?_⟩;have hs:=QK L (j+k) d (by omega);rw[QN vs,show j+(k+1)=(j+k)+1 from by omega,Nat.pow_succ]
 have e:B9^(j+k)*(d+B9*c')=B9^(j+k)*(L[j+k]?.getD 0+vs[k]?.getD 0+c):=by rw[he]
 have e2:B9^j*(B9^k*vs[k]?.getD 0)=B9^(j+k)*vs[k]?.getD 0:=by rw[Nat.pow_add,Nat.mul_assoc]
 simp only[Nat.mul_add,e2] at e hs h6 ⊢;rw[Nat.mul_assoc (B9^(j+k)) B9 c'];omega
theorem xZ.fit {vs L L' M:List Nat} {t j br c:Nat} (hS:xp vs L L' t j vs.length br) (hA:xZ vs L' M j vs.length c) (ov:jF vs) (hj:j+vs.length<L.length) (h0:jb (L.drop (j+vs.length+1))=0) (hD:yp B9 (jb (L.drop j)) (jb vs) t) (hlt:L[j+vs.length]?.getD 0<br):
  c=1∧jb (L.drop j)=jb vs*(t-1)+jb ((M.set (j+vs.length) 0).drop j)∧jb ((M.set (j+vs.length) 0).drop j)<jb vs:=by
 obtain⟨hz,ht⟩:=hS.over ov hj h0 hD hlt;obtain⟨e,e0,e1⟩:=hS.main hj h0;have hl:L'.length=L.length:=hS.1;have hl2:M.length=L'.length:=hA.1;obtain⟨a1,a2,a3,a4,a5,a6⟩:=hA;obtain⟨g1,g2⟩:=U1 a4;rw[List.take_of_length_le (Nat.le_refl _),Nat.pow_add,Nat.mul_assoc] at a6;have h7:=GJ a1 a3 (by omega) a6;rw[XL (L:=M) (j:=j) (n:=vs.length) (by omega) (by rw[g2];exact e0),XL (L:=L') (j:=j) (n:=vs.length) (by omega) e0,g1,e1] at h7;rw[Ml (by omega) (by rw[g2];exact e0),Nat.mul_zero,Nat.add_zero];obtain⟨d1,d2,d3⟩:=hD
 obtain⟨t',rfl⟩:∃t',t=t'+1:=⟨t-1,by omega⟩
 rw[Nat.add_mul,Nat.one_mul,Nat.mul_comm _ (jb vs)] at d2;rw[Nat.add_mul,Nat.one_mul,Nat.mul_comm _ (jb vs)] at d3;rw[Nat.add_sub_cancel];have hW:=ZR a2 j vs.length;have hW1:=ZR hS.2.1 j vs.length;subst hz;simp only[Nat.mul_add,Nat.mul_one] at *;generalize L[j+vs.length]?.getD 0=z at *;generalize jb ((L'.drop j).take vs.length)=W at *;generalize jb ((M.drop j).take vs.length)=W2 at *
 have hc:c=1:=by
  rcases Nat.lt_or_ge c 1 with h1 | h1
  ·have:c=0:=by omega
   subst this;omega
  ·omega
 subst hc;omega
theorem Wd {v f:Nat} (hv:0<v) (hv2:v<B9) (hf:f=B9/(v+1)):0<f∧f<B9∧f*(v+1)≤B9∧B9≤2*(v*f):=by
 have h1:=Nat.div_add_mod B9 (v+1);have h2:=Nat.mod_lt B9 (show 0<v+1 by omega);rw[←hf] at h1
 have hf0:0<f:=by
  rcases Nat.eq_zero_or_pos f with h | h
  ·rw[h] at h1;omega
  ·exact h
 have h3:f*(v+1)≤B9:=by rw[Nat.mul_comm];omega
 have h4:f*2≤f*(v+1):=Nat.mul_le_mul_left _ (by omega);refine⟨hf0,by unfold B9 at *;omega,h3,?_⟩;rcases Nat.lt_or_ge (2*v) B9 with hlt | hge
 ·rcases Nat.lt_or_ge v 2 with h5 | h5
  ·have:v=1:=by omega
   subst this;unfold B9 at *;omega
  ·obtain⟨b,hb⟩:∃b,B9=2*v+2+b:=⟨B9-(2*v+2),by unfold B9 at *;omega⟩
   have h6:v+2+b≤f*(v+1):=by rw[Nat.mul_comm];omega
   rcases Nat.lt_or_ge (2*(v*f)) B9 with h9 | h9
   ·exfalso
    have h10:(v+1)*(2*(v*f)+1)≤(v+1)*B9:=Nat.mul_le_mul_left _ h9;have h11:2*v*(v+2+b)≤2*v*(f*(v+1)):=Nat.mul_le_mul_left _ h6
    have k1:(v+1)*(2*(v*f)+1)=2*v*(f*(v+1))+(v+1):=by
     rw[Nat.mul_add,Nat.mul_one,Nat.mul_left_comm,Nat.mul_assoc 2 v,Nat.mul_comm (v+1),Nat.mul_assoc v f]
    have k2:2*v*(v+2+b)=2*(v*v)+4*v+2*(v*b):=by rw[Nat.mul_assoc];simp only[Nat.mul_add];omega
    have k3:(v+1)*(2*v+2+b)=2*(v*v)+4*v+2+v*b+b:=by rw[Nat.add_mul,Nat.one_mul,Nat.mul_add,Nat.mul_add,Nat.mul_left_comm v 2 v];omega
    have k4:2*b≤v*b:=Nat.mul_le_mul_right _ h5;rw[hb,k3,k1] at h10;omega
   ·exact h9
 ·have:2*v*1≤2*v*f:=Nat.mul_le_mul_left _ hf0
  rw[←Nat.mul_assoc];omega
def NO (U V:Nat) (w:World) (e:Ending) (w':World):Prop:=∃t:Nat,e = .returned (.int .i64 (t:Int))∧yp B9 U V t∧Below w.heap.size w w'
theorem NR (uv vv:Value) (us vs:List Nat) (j m:Nat) (w:World) (hu:jB w uv (jo us)) (hv:jB w vv (jo vs)) (ou:jF us) (ov:jF vs) (hl:vs.length=m+2) (hul:j+m+2<us.length)
  (hz:jb (us.drop (j+m+3))=0) (hlt:jb (us.drop j)<B9*jb vs) (hn:B9≤2*vs[m+1]?.getD 0) (hs:us.length≤3000000):
  Calls Tryz.prog 227 #[uv,vv,.int .i64 (j:Int)] w (NO (jb (us.drop j)) (jb vs) w):=by
 obtain⟨A,c,rfl,hc1,hc2⟩:=hu.form;obtain⟨B,d,rfl,hd1,hd2⟩:=hv.form;have HK:=hid (Dr ou ov hl hul hz hlt hn);obtain⟨b1,off1,rfl,hbb1,hcell1⟩:=hu.at_ (k:=0) (by rw[kg];omega);obtain⟨b2,off2,rfl,hbb2,hcell2⟩:=hv.at_ (k:=0) (by rw[kg];omega);simp only[kg] at hc1 hd1 hcell1 hcell2 ⊢;have c0:=(hcell1 (j+m+2) (by omega)).trans (qf us (j+m+2) hul);have c1:=(hcell1 (j+m+1) (by omega)).trans (qf us (j+m+1) (by omega));have c2:=(hcell1 (j+m) (by omega)).trans (qf us (j+m) (by omega));have d1:=(hcell2 (m+1) (by omega)).trans (qf vs (m+1) (by omega));have d2:=(hcell2 m (by omega)).trans (qf vs m (by omega));have u0b:=kJ ou (j+m+2);have u1b:=kJ ou (j+m+1);have u2b:=kJ ou (j+m);have v1b:=kJ ov (m+1);have v2b:=kJ ov m;clear hz hlt hu hv ou ov hcell1 hcell2;generalize us[j+m+2]?.getD 0=u0 at *;generalize us[j+m+1]?.getD 0=u1 at *;generalize us[j+m]?.getD 0=u2 at *;generalize vs[m+1]?.getD 0=v1 at *;generalize vs[m]?.getD 0=v2 at *;generalize jb (us.drop j)=U at *;generalize jb vs=V at *;generalize us.length=L at *;generalize vs.length=n at *
 have hv1:(0:Int)<(v1:Int):=by unfold B9 at hn;omega
 have u0I:(u0:Int)<1000000000:=by unfold B9 at *;omega
 have u1I:(u1:Int)<1000000000:=by unfold B9 at *;omega
 have u2I:(u2:Int)<1000000000:=by unfold B9 at *;omega
 have v1I:(v1:Int)<1000000000:=by unfold B9 at *;omega
 obtain⟨top,htop⟩:∃top,u0*B9+u1=top:=⟨_,rfl⟩
 rw[htop] at HK
 have htI:(u0:Int)*1000000000+(u1:Int)=(top:Int):=by rw[←htop];unfold B9;omega
 have htb:top<1000000000000000000:=by rw[←htop];unfold B9 at *;omega
 have HI0:=hid HK.out.start;have HR0:Hid (top%v1<v1):=hid (Nat.mod_lt _ (by omega));have HD0:Hid (top/v1≤top):=hid (Nat.div_le_self _ _);have Q1:(top:Int)/(v1:Int)=((top/v1:Nat):Int):=(Int.natCast_ediv _ _).symm;have Q2:(top:Int)%(v1:Int)=((top%v1:Nat):Int):=(Int.natCast_emod _ _).symm
 obtain⟨N0,hN0⟩:∃N0,N0=j+m+2:=⟨_,rfl⟩
 obtain⟨N1,hN1⟩:∃N1,N1=j+m+1:=⟨_,rfl⟩
 obtain⟨N2,hN2⟩:∃N2,N2=j+m:=⟨_,rfl⟩
 obtain⟨M1,hM1⟩:∃M1,M1=m+1:=⟨_,rfl⟩
 rw[←hN0] at c0;rw[←hN1] at c1;rw[←hN2] at c2;rw[←hM1] at d1
 have i0:(j:Int)+(n:Int)=(N0:Int):=by omega
 have i1:(N0:Int)-1=(N1:Int):=by omega
 have i2:(N0:Int)-2=(N2:Int):=by omega
 have i3:(n:Int)-1=(M1:Int):=by omega
 have i4:(n:Int)-2=(m:Int):=by omega
 have l0:(N0:Int)<(L:Int):=by omega
 have l1:(N1:Int)<(L:Int):=by omega
 have l2:(N2:Int)<(L:Int):=by omega
 have l3:(M1:Int)<(n:Int):=by omega
 have l4:(m:Int)<(n:Int):=by omega
 have l5:(L:Int)≤3000000:=by omega
 have l6:(n:Int)≤3000000:=by omega
 have l7:(j:Int)≤3000000:=by omega
 clear hN0 hN1 hN2 hM1 hl hul hs;have HQ1:=hid Q1;have HQ2:=hid Q2;have HV2:=hid v2b;clear Q1 Q2 htop u0b u1b u2b v1b v2b;generalize top/v1=t0 at *;generalize top%v1=r0 at *;go_enter Tryz.func227,Tryz.ntmps227
 go_wp2_with fail
 go_quiet (fail)
 have hB1:=below_drewN (Below.refl w.heap.size w) nq
 go_wp2_with fail
 go_quiet (fail)
 have hB2:=below_drewN hB1 nq
 have ht0:(t0:Int)<1000000000000000000:=by have:=HD0.out;omega
 have hr0:(r0:Int)<1000000000:=by have:=HR0.out;omega
 have ht0w:wrap64 (t0:Int)=(t0:Int):=IntWalk.wrap64_in _ (by omega);rw[HQ1.out,HQ2.out]
 go_wp2_with fail
 rw[ht0w];clear ht0w;have HB2:=hid hB2;clear hB1 hB2 HQ1 HQ2 HD0 HR0 htb htI
 go_loopg [6,9,10] t0 (fun g _ t r wr=>∃r':Nat,t = .int .i64 (g:Int)∧r = .int .i64 (r':Int)∧(g:Int)<1000000000000000000∧(r':Int)<1000000000∧Hid (xQ top v1 U V g r')∧Hid (Below w.heap.size w wr))
 case atStart=>exact⟨r0,rfl,rfl,ht0,hr0,HI0,HB2⟩
 case round=>
  clear HB2 HI0 ht0 hr0;obtain⟨r',rfl,rfl,hg9,hr9,hI,hB⟩:=hrel;have hk2:=(hB.out.cell (p:=⟨b1,off1+N2,none⟩) hbb1).trans c2;have he1:=(hB.out.cell (p:=⟨b2,off2+M1,none⟩) hbb2).trans d1;have he2:=(hB.out.cell (p:=⟨b2,off2+m,none⟩) hbb2).trans d2;by_cases hge:1000000000≤gk
  ·have hgI:(1000000000:Int)≤(gk:Int):=by omega
   obtain⟨t',ht',hI2⟩:=HK.out.down hI.out (.inl hge);have HI2:=hid hI2;have HEF:=hid (fun h=>HK.out.exit_far (t:=t') (by rw[←ht'];exact hI.out) hI2 h);clear hI hI2;subst ht'
   have hgJ:(1000000000:Int)≤(t':Int)+1:=by omega
   clear hge hgI
   go_wp2_with fail
   go_quiet (fail)
   have HB3:=hid (below_drewN hB.out nq);by_cases hfar:1000000000≤r'+v1
   ·have hfI:(1000000000:Int)≤(r':Int)+(v1:Int):=by omega
    have HD:=hid (HEF.out hfar);clear hfar HEF
    go_wp2
    go_ret;exact⟨t',by go_num,HD.out,HB3.out⟩
   ·have hfI:¬(1000000000:Int)≤(r':Int)+(v1:Int):=by omega
    clear hfar HEF
    go_wp2
    go_roundg t'
    case rel=>exact⟨r'+v1,by go_num,by go_num,by omega,by omega,HI2,HB3⟩
    case measure=>omega
  ·obtain⟨tv,htv⟩:∃tv,gk*v2=tv:=⟨_,rfl⟩
   have htvb:tv<1000000000000000000:=by
    have h1:gk*v2≤999999999*999999999:=Nat.mul_le_mul (by omega) (by have:=HV2.out;unfold B9 at this;omega);rw[htv] at h1;omega
   by_cases hlt:r'*1000000000+u2<tv
   ·have hlI:(r':Int)*1000000000+(u2:Int)<(tv:Int):=by omega
    have htw:wrap64 (((gk:Nat):Int)*(v2:Int))=(tv:Int):=by rw[←Int.natCast_mul,htv];exact IntWalk.wrap64_in _ (by omega)
    obtain⟨t',ht',hI2⟩:=HK.out.down hI.out (.inr (by rw[htv];exact hlt));have HI2:=hid hI2;have HEF:=hid (fun h=>HK.out.exit_far (t:=t') (by rw[←ht'];exact hI.out) hI2 h);clear hI hI2 htv hlt;subst ht';have htw2:wrap64 (((t':Int)+1)*(v2:Int))=(tv:Int):=htw;clear htw;have hgJ:decide ((1000000000:Int)≤(t':Int)+1)=false:=decide_eq_false (by clear htw2;omega);clear hge
    go_wp2_with fail
    go_quiet (fail)
    have HB3:=hid (below_drewN hB.out nq);by_cases hfar:1000000000≤r'+v1
    ·have hfI:(1000000000:Int)≤(r':Int)+(v1:Int):=by omega
     have HD:=hid (HEF.out hfar);clear hfar HEF
     go_wp2
     go_ret;exact⟨t',by go_num,HD.out,HB3.out⟩
    ·have hfI:¬(1000000000:Int)≤(r':Int)+(v1:Int):=by omega
     clear hfar HEF
     go_wp2
     go_roundg t'
     case rel=>exact⟨r'+v1,by go_num,by go_num,by omega,by omega,HI2,HB3⟩
     case measure=>omega
   ·have hlI:decide ((r':Int)*1000000000+(u2:Int)<(tv:Int))=false:=decide_eq_false (by omega)
    have HD:=hid (HK.out.exit hI.out (show gk<B9 from by unfold B9;omega) (by rw[htv];show tv≤r'*1000000000+u2;omega))
    have htw:wrap64 ((gk:Int)*(v2:Int))=(tv:Int):=by rw[←Int.natCast_mul,htv];exact IntWalk.wrap64_in _ (by omega)
    have hgI:decide ((1000000000:Int)≤(gk:Int))=false:=decide_eq_false (by clear htw hlI;omega);clear hge hI htv hlt
    go_wp2_with fail
    go_quiet (fail)
    have HB3:=hid (below_drewN hB.out nq)
    go_wp2
    go_ret;exact⟨gk,rfl,HD.out,HB3.out⟩
