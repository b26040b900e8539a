/- Contracts of the reference: arithmetic on numbers of any length. -/
import Derived.Test.YtneafcdfnhnpnaaGreatDoorZK24
set_option maxRecDepth 100000
set_option maxHeartbeats 16000000
namespace Go.Proofs.YtneafcdfnhnpnaaGreatDoor
open Go.RowKit Go.Lib
def Zr (w:World) (e:Ending) (w':World):Prop:=e = .returned (.tuple #[.int .i64 0,.int .i64 0,.bool false])∧w=w'
theorem Aw (s:ByteArray) (w:World) (h:(20:Int)<(s.size:Int)):Calls Tryz.prog 116 #[.string s] w (Zr w):=by
 go_enter Tryz.func116,Tryz.ntmps116
 go_wp2
 go_ret3;exact⟨rfl,rfl⟩
theorem WK (neg:Bool) (s t:ByteArray) (k:Nat) (w:World) (h0:0<s.size) (hc:(((s[0]'h0).toNat:Int)==45)=neg) (ht:(if neg=true then s.extract 1 s.size else s)=t) (hsz:(s.size:Int)≤20) (SL:Hid (∀W,Calls Tryz.prog 103 #[.string t] W (xC k W)))
  (hk:(9:Int)<k∨((k:Int)≤9∧(10:Int)<(t.size:Int)-k)) (hkt:(t.size:Int)≤20) (hk2:(k:Int)≤(t.size:Int)):Calls Tryz.prog 116 #[.string s] w (Zr w):=by
 have HTE:=hid ht;clear ht
 have h0I:(0:Int)<(s.size:Int):=by omega
 have h1I:(1:Int)≤(s.size:Int):=by omega
 cases neg
 case' true=>rw[if_pos rfl] at HTE
 case' false=>rw[if_neg (by decide)] at HTE;have HTE2:=HTE.out;clear HTE;subst HTE2
 all_goals (
  rcases hk with hk | ⟨hk,hk1⟩
  ·go_enter Tryz.func116,Tryz.ntmps116
   go_wp2_with fail
   try rw[HTE.out]
   refine(SL.out _).mono ?_;rintro e w1 ⟨rfl,rfl⟩
   go_wp2
   go_ret3;exact⟨rfl,rfl⟩
  ·have hk':¬(9:Int)<k:=by omega
   go_enter Tryz.func116,Tryz.ntmps116
   go_wp2_with fail
   try rw[HTE.out]
   refine(SL.out _).mono ?_;rintro e w1 ⟨rfl,rfl⟩
   go_wp2
   go_ret3
   exact⟨rfl,rfl⟩)
theorem UR {n:Nat} (h:1000000000≤n):10≤(decDigits n).length:=by
 rcases Nat.lt_or_ge (decDigits n).length 10 with hl | hl
 ·have h1:=qG (qw n)
  rw[y4] at h1;have h2:10^(decDigits n).length≤10^9:=Nat.pow_le_pow_right (by decide) (by omega);omega
 ·exact hl
theorem Ci (q:Rat):∃t:List UInt8,jg q=(if decide (q.num<0)=true then [45] else [])++t∧t=decDigits q.num.natAbs++(if q.den=1 then [] else 47::decDigits q.den)∧jk t=(decDigits q.num.natAbs).length:=by
 refine⟨_,by rw[XE,List.append_assoc],rfl,?_⟩;by_cases hd:q.den=1
 ·rw[if_pos hd,List.append_nil];exact Qm (qw _)
 ·rw[if_neg hd];exact XI (qw _)
theorem Av (q:Rat) (w:World) (h:¬qm q):Calls Tryz.prog 116 #[.string ⟨(jg q).toArray⟩] w (Zr w):=by
 obtain⟨tl,ht,htt,hsl⟩:=Ci q;generalize hss:(⟨(jg q).toArray⟩:ByteArray)=s
 have hs:s.data.toList=jg q:=by rw[←hss]
 have hz:=kw hs;by_cases h20:20<s.size
 ·exact Aw s w (by omega)
 ·have hn0:=yZ q.num.natAbs
  have hwide:9<(decDigits q.num.natAbs).length∨((decDigits q.num.natAbs).length≤9∧10<tl.length-(decDigits q.num.natAbs).length):=by
   rcases Nat.lt_or_ge 9 (decDigits q.num.natAbs).length with h9 | h9
   ·exact .inl h9
   ·refine .inr ⟨h9,?_⟩
    have h1:q.num.natAbs<1000000000:=by
     rcases Nat.lt_or_ge q.num.natAbs 1000000000 with h2 | h2
     ·exact h2
     ·have:=UR h2;omega
    have h2:1000000000≤q.den:=by
     rcases Nat.lt_or_ge q.den 1000000000 with h2 | h2
     ·exact absurd ⟨h1,h2⟩ h
     ·exact h2
    have h3:=UR h2
    have hd:q.den≠1:=by omega
    rw[htt,if_neg hd,List.length_append,List.length_cons];omega
  have htl:(decDigits q.num.natAbs).length≤tl.length:=by rw[htt,List.length_append];omega
  have h0:0<s.size:=by rw[hz,ht,List.length_append];omega
  by_cases hneg:q.num<0
  ·have hd:decide (q.num<0)=true:=decide_eq_true hneg
   rw[hd,if_pos rfl] at ht
   have hs':s.data.toList=45::tl:=by rw[hs,ht];rfl
   have e:(s.extract 1 s.size).data.toList=tl:=by rw[xD hs',kw hs',List.take_of_length_le (Nat.le_refl _)];rfl
   have ez:=kw e;have ez2:=kw hs';rw[List.length_cons] at ez2;refine WK true s (s.extract 1 s.size) (decDigits q.num.natAbs).length w h0 (by rw[KP hs' h0];rfl) (if_pos rfl) (by omega) (hid fun W=> ?_) (by omega) (by omega) (by omega);have h:=zi (s.extract 1 s.size) W (by omega);rw[e,hsl] at h;exact h
  ·have hd:decide (q.num<0)=false:=decide_eq_false hneg
   rw[hd,if_neg (by decide),List.nil_append] at ht
   have hs':s.data.toList=tl:=by rw[hs,ht]
   have ez:=kw hs';have hge:=xm s 0 h0
   refine WK false s s (decDigits q.num.natAbs).length w h0 ?_ (if_neg (by decide)) (by omega) (hid fun W=> ?_) (by omega) (by omega) (by omega)
   ·refine Zf (qw q.num.natAbs _ ?_)
    rw[hs',htt,List.getElem?_append_left hn0] at hge;exact List.mem_of_getElem? hge
   ·have h:=zi s W (by omega)
    rw[hs',hsl] at h;exact h
instance (q:Rat):Decidable (qm q):=by unfold qm;infer_instance
def Qd (b:Bool) (w:World) (e:Ending) (w':World):Prop:=(∃n d:Int,e = .returned (.tuple #[.int .i64 n,.int .i64 d,.bool b]))∧w=w'
theorem Xu (q:Rat) (w:World):Calls Tryz.prog 116 #[.string ⟨(jg q).toArray⟩] w (Qd (decide (qm q)) w):=by
 by_cases h:qm q
 ·rw[decide_eq_true h]
  exact(Qe q w h).mono fun e w' k=>⟨⟨_,_,k.1⟩,k.2⟩
 ·rw[decide_eq_false h]
  exact(Av q w h).mono fun e w' k=>⟨⟨_,_,k.1⟩,k.2⟩
theorem zk {w:World} {x y:Int} {b1 b2:Bool} {A1 A2:Option Addr} {m1 m2 c1 c2:Nat} (r1:Ri w (.agg #[.bool b1,.slice A1 m1 c1]) x) (r2:Ri w (.agg #[.bool b2,.slice A2 m2 c2]) y):
  ∃W,W=(w.alloc (.cells #[.bool b1,.slice A1 m1 c1] 127)).alloc (.cells #[.bool b2,.slice A2 m2 c2] 127)∧Below w.heap.size w W∧W.heap.size=w.heap.size+2 ∧
   ja W w.heap.size 127 [.bool b1,.slice A1 m1 c1]∧ja W (w.heap.size+1) 127 [.bool b2,.slice A2 m2 c2]∧Ri W (.agg #[.bool b1,.slice A1 m1 c1]) x∧Ri W (.agg #[.bool b2,.slice A2 m2 c2]) y:=by
 have hB:Below w.heap.size w ((w.alloc (.cells #[.bool b1,.slice A1 m1 c1] 127)).alloc (.cells #[.bool b2,.slice A2 m2 c2] 127)):=((Below.refl _ _).alloc (Nat.le_refl _) _).alloc (by simp) _;exact⟨_,rfl,hB,by simp,(ja.make w _ [.bool b1,.slice A1 m1 c1]).alloc _,Qa,r1.below hB,r2.below hB⟩
theorem Mr (s t:ByteArray) (l:List UInt8) (b1 b2:Bool) (hbb:(b1&&b2)=false) (X1 X2 X3 X4:Int) (x1 x2 y1 y2:Int) (w:World) (HQ1:Hid (∀W,Calls Tryz.prog 116 #[.string s] W (Qd b1 W))) (HQ2:Hid (∀W,Calls Tryz.prog 116 #[.string t] W (Qd b2 W)))
  (PA:Hid (∀W,Calls Tryz.prog 105 #[.string s] W (xH x1 y1 W))) (PB:Hid (∀W,Calls Tryz.prog 105 #[.string t] W (xH x2 y2 W)))
  (T1:Hid (∀W a b,Ri W a x1→Ri W b y2→Calls Tryz.prog 119 #[a,b] W (kN X1 W)))
  (T2:Hid (∀W a b,Ri W a x2→Ri W b y1→Calls Tryz.prog 119 #[a,b] W (kN X2 W)))
  (T3:Hid (∀W a b,Ri W a X1→Ri W b X2→Calls Tryz.prog 118 #[a,b] W (kN X3 W)))
  (T4:Hid (∀W a b,Ri W a y1→Ri W b y2→Calls Tryz.prog 119 #[a,b] W (kN X4 W)))
  (FR:Hid (∀W a b,Ri W a X3→Ri W b X4→Calls Tryz.prog 117 #[a,b] W (kn l W))):
  Calls Tryz.prog 26 #[.string s,.string t] w (kn l w):=by
 have key:b1=false∨(b1=true∧b2=false):=by cases b1 <;> cases b2 <;> simp_all
 clear hbb
 rcases key with hb | ⟨hb,hb'⟩
 all_goals (
  subst hb
  try subst hb'
  go_enter Tryz.func26,Tryz.ntmps26
  go_wp2_with fail
  refine(HQ1.out _).mono ?_;rintro e w0 ⟨⟨n1,d1,rfl⟩,rfl⟩
  go_wp2_with fail
  refine(HQ2.out _).mono ?_;rintro e w0 ⟨⟨n2,d2,rfl⟩,rfl⟩
  go_wp2_with fail
  refine(PA.out _).mono ?_;rintro e w1 ⟨vp,vq,rfl,rp,rq,hB1⟩;obtain⟨Ap,np,cp,rfl,_,_⟩:=rp.open_;obtain⟨Aq,nq_,cq,rfl,_,_⟩:=rq.open_;generalize decide (x1<0)=bp at *;generalize decide (y1<0)=bq at *;obtain⟨W1,hW1,hBW1,hz1,o1,o2,rp1,rq1⟩:=zk rp rq
  go_upto_region 6 with fail
  rw[←hW1];have HB1:=hid (hB1.trans (hBW1.mono hB1.size));have HO1:=hid o1;have HO2:=hid o2;have HRP:=hid rp1;have HRQ:=hid rq1;have HZ1:=hid hz1;clear hW1 hBW1 hz1 o1 o2 rp1 rq1 rp rq hB1
  go_wp2_with fail
  refine(PB.out _).mono ?_;rintro e w2 ⟨vr,vs,rfl,rr,rs,hB2⟩;obtain⟨Ar,nr,cr,rfl,_,_⟩:=rr.open_;obtain⟨As,ns,cs,rfl,_,_⟩:=rs.open_;generalize decide (x2<0)=br at *;generalize decide (y2<0)=bs at *;obtain⟨W2,hW2,hBW2,hz2,o3,o4,rr1,rs1⟩:=zk rr rs
  go_upto_region 7 with fail
  rw[←hW2];have hBB:=hB2.trans (hBW2.mono hB2.size);have HP:=hid (HRP.out.below hBB);have HQ:=hid (HRQ.out.below hBB);have HR:=hid rr1;have HS:=hid rs1
  have KC:Hid (∀z,Below W2.heap.size W2 z→(fun z=>z.cell? ⟨w1.heap.size,0,none⟩=some (.bool bp)∧z.cell? ⟨w1.heap.size,1,none⟩=some (.slice Ap np cp)∧z.cell? ⟨w1.heap.size+1,0,none⟩=some (.bool bq)∧z.cell? ⟨w1.heap.size+1,1,none⟩=some (.slice Aq nq_ cq)∧z.cell? ⟨w2.heap.size,0,none⟩=some (.bool br)∧z.cell? ⟨w2.heap.size,1,none⟩=some (.slice Ar nr cr)∧z.cell? ⟨w2.heap.size+1,0,none⟩=some (.bool bs)∧z.cell? ⟨w2.heap.size+1,1,none⟩=some (.slice As ns cs)∧Below W2.heap.size W2 z) z):=hid (fun z hb=>by
   have h1:=(HO1.out.below hBB HO1.out.lt).below hb (Nat.lt_of_lt_of_le HO1.out.lt hBB.size);have h2:=(HO2.out.below hBB HO2.out.lt).below hb (Nat.lt_of_lt_of_le HO2.out.lt hBB.size);have h3:=o3.below hb o3.lt;have h4:=o4.below hb o4.lt
   exact⟨h1.cell 0,h1.cell 1,h2.cell 0,h2.cell 1,h3.cell 0,h3.cell 1,h4.cell 0,h4.cell 1,hb⟩)
  have KT:=hid (fun (z z':World) (hb:Below z.heap.size z z') (h5:Below W2.heap.size W2 z)=>KC.out z' (h5.trans (hb.mono h5.size)));have HBF:=hid (HB1.out.trans (hBB.mono HB1.out.size));clear hW2 hBW2 hz2 o3 o4 rr1 rs1 rr rs hB2 hBB HO1 HO2 HRP HRQ HZ1 HB1
  go_region_held3 (fun z=>z.cell? ⟨w1.heap.size,0,none⟩=some (.bool bp)∧z.cell? ⟨w1.heap.size,1,none⟩=some (.slice Ap np cp)∧z.cell? ⟨w1.heap.size+1,0,none⟩=some (.bool bq)∧z.cell? ⟨w1.heap.size+1,1,none⟩=some (.slice Aq nq_ cq)∧z.cell? ⟨w2.heap.size,0,none⟩=some (.bool br)∧z.cell? ⟨w2.heap.size,1,none⟩=some (.slice Ar nr cr)∧z.cell? ⟨w2.heap.size+1,0,none⟩=some (.bool bs)∧z.cell? ⟨w2.heap.size+1,1,none⟩=some (.slice As ns cs)∧Below W2.heap.size W2 z)
   (first | exact KC.out _ (Below.refl _ _).drew | exact KT.out _ _ (by assumption) (by assumption))
   (first
    | (go_at_call_of 119 (Value.agg #[.bool bp,.slice Ap np cp]);go_split_ands;refine(T1.out _ _ _ (HP.out.below (by assumption)) (HS.out.below (by assumption))).mono ?_;rintro e3 w3 ⟨a1,rfl,ha1,hB3⟩)
    | (go_at_call_of 119 (Value.agg #[.bool br,.slice Ar nr cr]);go_split_ands;refine(T2.out _ _ _ (HR.out.below (by assumption)) (HQ.out.below (by assumption))).mono ?_;rintro e4 w4 ⟨a2,rfl,ha2,hB4⟩)
    | (go_at_call 118;go_split_ands;refine(T3.out _ _ _ (ha1.below hB4) ha2).mono ?_;rintro e5 w5 ⟨a3,rfl,ha3,hB5⟩)
    | (go_at_call_of 119 (Value.agg #[.bool bq,.slice Aq nq_ cq]);go_split_ands;refine(T4.out _ _ _ (HQ.out.below (by assumption)) (HS.out.below (by assumption))).mono ?_;rintro e6 w6 ⟨a4,rfl,ha4,hB6⟩)
    | (go_at_call 117;go_split_ands;refine(FR.out _ _ _ (ha3.below hB6) ha4).mono ?_;rintro e7 wz ⟨rfl,hB7⟩))
  have HAN:Hid (Below W2.heap.size W2 wz):=hid (by go_split_ands;assumption);have HF:=hid (HBF.out.trans (HAN.out.mono HBF.out.size))
  go_wp2
  go_ret
  exact⟨rfl,HF.out⟩)
theorem MP (s t:ByteArray) (l:List UInt8) (b1 b2:Bool) (hbb:(b1&&b2)=false) (X1 X4:Int) (x1 x2 y1 y2:Int) (w:World) (HQ1:Hid (∀W,Calls Tryz.prog 116 #[.string s] W (Qd b1 W))) (HQ2:Hid (∀W,Calls Tryz.prog 116 #[.string t] W (Qd b2 W)))
  (PA:Hid (∀W,Calls Tryz.prog 105 #[.string s] W (xH x1 y1 W))) (PB:Hid (∀W,Calls Tryz.prog 105 #[.string t] W (xH x2 y2 W)))
  (T1:Hid (∀W a b,Ri W a x1→Ri W b x2→Calls Tryz.prog 119 #[a,b] W (kN X1 W)))
  (T4:Hid (∀W a b,Ri W a y1→Ri W b y2→Calls Tryz.prog 119 #[a,b] W (kN X4 W)))
  (FR:Hid (∀W a b,Ri W a X1→Ri W b X4→Calls Tryz.prog 117 #[a,b] W (kn l W))):
  Calls Tryz.prog 28 #[.string s,.string t] w (kn l w):=by
 have key:b1=false∨(b1=true∧b2=false):=by cases b1 <;> cases b2 <;> simp_all
 clear hbb
 rcases key with hb | ⟨hb,hb'⟩
 all_goals (
  subst hb
  try subst hb'
  go_enter Tryz.func28,Tryz.ntmps28
  go_wp2_with fail
  refine(HQ1.out _).mono ?_;rintro e w0 ⟨⟨n1,d1,rfl⟩,rfl⟩
  go_wp2_with fail
  refine(HQ2.out _).mono ?_;rintro e w0 ⟨⟨n2,d2,rfl⟩,rfl⟩
  go_wp2_with fail
  refine(PA.out _).mono ?_;rintro e w1 ⟨vp,vq,rfl,rp,rq,hB1⟩;obtain⟨Ap,np,cp,rfl,_,_⟩:=rp.open_;obtain⟨Aq,nq_,cq,rfl,_,_⟩:=rq.open_;generalize decide (x1<0)=bp at *;generalize decide (y1<0)=bq at *;obtain⟨W1,hW1,hBW1,hz1,o1,o2,rp1,rq1⟩:=zk rp rq
  go_upto_region 6 with fail
  rw[←hW1];have HB1:=hid (hB1.trans (hBW1.mono hB1.size));have HO1:=hid o1;have HO2:=hid o2;have HRP:=hid rp1;have HRQ:=hid rq1;have HZ1:=hid hz1;clear hW1 hBW1 hz1 o1 o2 rp1 rq1 rp rq hB1
  go_wp2_with fail
  refine(PB.out _).mono ?_;rintro e w2 ⟨vr,vs,rfl,rr,rs,hB2⟩;obtain⟨Ar,nr,cr,rfl,_,_⟩:=rr.open_;obtain⟨As,ns,cs,rfl,_,_⟩:=rs.open_;generalize decide (x2<0)=br at *;generalize decide (y2<0)=bs at *;obtain⟨W2,hW2,hBW2,hz2,o3,o4,rr1,rs1⟩:=zk rr rs
  go_upto_region 7 with fail
  rw[←hW2];have hBB:=hB2.trans (hBW2.mono hB2.size);have HP:=hid (HRP.out.below hBB);have HQ:=hid (HRQ.out.below hBB);have HR:=hid rr1;have HS:=hid rs1
  have KC:Hid (∀z,Below W2.heap.size W2 z→(fun z=>z.cell? ⟨w1.heap.size,0,none⟩=some (.bool bp)∧z.cell? ⟨w1.heap.size,1,none⟩=some (.slice Ap np cp)∧z.cell? ⟨w1.heap.size+1,0,none⟩=some (.bool bq)∧z.cell? ⟨w1.heap.size+1,1,none⟩=some (.slice Aq nq_ cq)∧z.cell? ⟨w2.heap.size,0,none⟩=some (.bool br)∧z.cell? ⟨w2.heap.size,1,none⟩=some (.slice Ar nr cr)∧z.cell? ⟨w2.heap.size+1,0,none⟩=some (.bool bs)∧z.cell? ⟨w2.heap.size+1,1,none⟩=some (.slice As ns cs)∧Below W2.heap.size W2 z) z):=hid (fun z hb=>by
   have h1:=(HO1.out.below hBB HO1.out.lt).below hb (Nat.lt_of_lt_of_le HO1.out.lt hBB.size);have h2:=(HO2.out.below hBB HO2.out.lt).below hb (Nat.lt_of_lt_of_le HO2.out.lt hBB.size);have h3:=o3.below hb o3.lt;have h4:=o4.below hb o4.lt
   exact⟨h1.cell 0,h1.cell 1,h2.cell 0,h2.cell 1,h3.cell 0,h3.cell 1,h4.cell 0,h4.cell 1,hb⟩)
  have KT:=hid (fun (z z':World) (hb:Below z.heap.size z z') (h5:Below W2.heap.size W2 z)=>KC.out z' (h5.trans (hb.mono h5.size)));have HBF:=hid (HB1.out.trans (hBB.mono HB1.out.size));clear hW2 hBW2 hz2 o3 o4 rr1 rs1 rr rs hB2 hBB HO1 HO2 HRP HRQ HZ1 HB1
  go_region_held3 (fun z=>z.cell? ⟨w1.heap.size,0,none⟩=some (.bool bp)∧z.cell? ⟨w1.heap.size,1,none⟩=some (.slice Ap np cp)∧z.cell? ⟨w1.heap.size+1,0,none⟩=some (.bool bq)∧z.cell? ⟨w1.heap.size+1,1,none⟩=some (.slice Aq nq_ cq)∧z.cell? ⟨w2.heap.size,0,none⟩=some (.bool br)∧z.cell? ⟨w2.heap.size,1,none⟩=some (.slice Ar nr cr)∧z.cell? ⟨w2.heap.size+1,0,none⟩=some (.bool bs)∧z.cell? ⟨w2.heap.size+1,1,none⟩=some (.slice As ns cs)∧Below W2.heap.size W2 z)
   (first | exact KC.out _ (Below.refl _ _).drew | exact KT.out _ _ (by assumption) (by assumption))
   (first
    | (go_at_call_of 119 (Value.agg #[.bool bp,.slice Ap np cp]);go_split_ands;refine(T1.out _ _ _ (HP.out.below (by assumption)) (HR.out.below (by assumption))).mono ?_;rintro e3 w3 ⟨a1,rfl,ha1,hB3⟩)
    | (go_at_call_of 119 (Value.agg #[.bool bq,.slice Aq nq_ cq]);go_split_ands;refine(T4.out _ _ _ (HQ.out.below (by assumption)) (HS.out.below (by assumption))).mono ?_;rintro e6 w6 ⟨a4,rfl,ha4,hB6⟩)
    | (go_at_call 117;go_split_ands;refine(FR.out _ _ _ (ha1.below hB6) ha4).mono ?_;rintro e7 wz ⟨rfl,hB7⟩))
  have HAN:Hid (Below W2.heap.size W2 wz):=hid (by go_split_ands;assumption);have HF:=hid (HBF.out.trans (HAN.out.mono HBF.out.size))
  go_wp2
  go_ret
  exact⟨rfl,HF.out⟩)
end Go.Proofs.YtneafcdfnhnpnaaGreatDoor
namespace Go.Proofs.YtneafcdfnhnpnaaGreatDoor
open Go.RowKit
def xd (r:Int):Bool:=decide ((97≤r∧r≤122)∨(65≤r∧r≤90))
theorem Jw (r:Int) (w:World):Calls Tryz.prog 122 #[.int .i32 r] w fun e w'=>e = .returned (.bool (xd r))∧w=w':=by
 by_cases h1:97≤r
 ·by_cases h2:r≤122
  ·have Hd:=Lib.hid (show xd r=true by simp[xd];omega)
   go_enter Tryz.func122,Tryz.ntmps122
   go_wp2
   go_ret;exact⟨by rw[Hd.out];rfl,rfl⟩
  ·have Hd:=Lib.hid (show xd r=false by simp[xd];omega)
   have h3:65≤r:=by omega
   have h4:¬r≤90:=by omega
   go_enter Tryz.func122,Tryz.ntmps122
   go_wp2
   go_ret;exact⟨by rw[Hd.out];rfl,rfl⟩
 ·by_cases h3:65≤r
  ·by_cases h4:r≤90
   ·have Hd:=Lib.hid (show xd r=true by simp[xd];omega)
    go_enter Tryz.func122,Tryz.ntmps122
    go_wp2
    go_ret;exact⟨by rw[Hd.out];rfl,rfl⟩
   ·have Hd:=Lib.hid (show xd r=false by simp[xd];omega)
    go_enter Tryz.func122,Tryz.ntmps122
    go_wp2
    go_ret;exact⟨by rw[Hd.out];rfl,rfl⟩
  ·have Hd:=Lib.hid (show xd r=false by simp[xd];omega)
   go_enter Tryz.func122,Tryz.ntmps122
   go_wp2
   go_ret;exact⟨by rw[Hd.out];rfl,rfl⟩
end Go.Proofs.YtneafcdfnhnpnaaGreatDoor
namespace Go.Proofs.YtneafcdfnhnpnaaGreatDoor
open Go.RowKit Go.Lib
def Kf (i:Nat) (c:UInt8):Prop:=xd (c.toNat:Int)=true∨(i≠0∧(xc (c.toNat:Int)=true∨c.toNat=95))
instance (i:Nat) (c:UInt8):Decidable (Kf i c):=by unfold Kf;infer_instance
def K3 (l:List UInt8) (k:Nat):Prop:=∀i,i<k → ∀c,l[i]? =some c→Kf i c
def Ky (l:List UInt8):Prop:=(l≠[]∧l.length≤24)∧K3 l l.length
theorem K3.succ {l:List UInt8} {k:Nat} {c:UInt8} (h:K3 l k) (hc:l[k]? =some c) (hn:Kf k c):K3 l (k+1):=fun i hi c' hc'=>by
 rcases Nat.lt_or_ge i k with h1 | h1
 ·exact h i h1 c' hc'
 ·have:i=k:=by omega
  subst this;rw[hc] at hc';cases hc';exact hn
theorem V4 {l:List UInt8} {k:Nat} {c:UInt8} (hc:l[k]? =some c) (hn:¬Kf k c):¬Ky l:=fun h=>hn (h.2 k (List.getElem?_eq_some_iff.1 hc).1 c hc)
def N5 (s:ByteArray) (w:World) (e:Ending) (w':World):Prop:=∃b:Bool,e = .returned (.bool b)∧(b=true↔Ky s.data.toList)∧Below w.heap.size w w'
theorem Z9 (s:ByteArray) (w:World) (hs:s.size≤9223372036854775807):
  Calls Tryz.prog 32 #[.string s] w (N5 s w):=by
 by_cases h0:s.size=0
 ·have hno:¬Ky s.data.toList:=fun h=>h.1.1 (List.length_eq_zero_iff.1 (by simpa using h0))
  have Hno:=hid hno
  have hb:((s.size:Int)==0)=true:=by rw[h0];rfl
  clear hno h0;go_enter Tryz.func32,Tryz.ntmps32
  go_wp2
  go_ret;exact⟨false,rfl,by simp;exact Hno.out,Below.refl _ _⟩
 have hb0:((s.size:Int)==0)=false:=by simpa using h0
 by_cases h24:s.size≤24
 ·have hb1:¬((s.size:Int)>24):=by omega
  have hnb:s.data.toList≠[]∧s.data.toList.length≤24:=⟨fun h=>h0 (by have:=congrArg List.length h;simpa using this),by simpa using h24⟩
  have HNB:=hid hnb;clear hnb h0;go_enter Tryz.func32,Tryz.ntmps32
  go_wp2
  go_loopw [3,4,15] (fun _ _ _ wr=>∃pos:Nat,wr=w.iter s pos∧pos≤s.size∧Hid (K3 s.data.toList pos)) (fun _ _ _ wr=>s.size-wr.iterPos w.heap.size)
  case atStart=>exact⟨0,rfl,by omega,hid (fun i hi=>by omega)⟩
  case round=>
   obtain⟨pos,rfl,hp,hd⟩:=hrel;by_cases hlt:pos<s.size
   ·have hge:=xm s pos hlt
    by_cases hasc:(s[pos]).toNat<128
    ·have hnx:=fun ty=>run_next_ascii (P:=Tryz.prog) w s pos ty hlt hasc
     have HY:=hid (fun hn=>hd.out.succ hge hn);have HN:=hid (fun hn=>V4 hge hn);clear hge hd;generalize s[pos]=c at *;have HA:Hid (Kf pos c↔(xd (c.toNat:Int)=true∨(pos≠0∧(xc (c.toNat:Int)=true∨c.toNat=95)))):=hid Iff.rfl
     cases hL:xd (c.toNat:Int) with
     | true=>
      have HR:=hid (HY.out (HA.out.2 (.inl hL)));clear HY HN HA
      go_wp2_with (go_at_call 122;refine(Jw _ _).mono ?_;rintro e w' ⟨rfl,rfl⟩;rw[hL])
      exact⟨⟨pos+1,rfl,by omega,HR⟩,by rw[World.iterPos_iter,World.iterPos_iter];omega⟩
     | false=>
      by_cases hp0:pos=0
      ·have Hno:=hid (HN.out (fun h=>by rcases HA.out.1 h with h | h;rw[hL] at h;cases h;exact h.1 hp0))
       have hb2:((pos:Int)==0)=true:=by rw[hp0];rfl
       clear HY HN HA hp0
       go_wp2_with (go_at_call 122;refine(Jw _ _).mono ?_;rintro e w' ⟨rfl,rfl⟩;rw[hL])
       go_ret;exact⟨false,rfl,by simp;exact Hno.out,(Below.refl _ _).alloc (Nat.le_refl _) _⟩
      ·have hb2:((pos:Int)==0)=false:=by simpa using hp0
       cases hD:xc (c.toNat:Int) with
       | true=>
        have HR:=hid (HY.out (HA.out.2 (.inr ⟨hp0,.inl hD⟩)));clear HY HN HA hp0
        go_wp2_with (first | (go_at_call 122;refine(Jw _ _).mono ?_;rintro e w' ⟨rfl,rfl⟩;rw[hL]) | (go_at_call 123;refine(Jv _ _).mono ?_;rintro e w' ⟨rfl,rfl⟩;rw[hD]))
        exact⟨⟨pos+1,rfl,by omega,HR⟩,by rw[World.iterPos_iter,World.iterPos_iter];omega⟩
       | false=>
        by_cases hU:c.toNat=95
        ·have HR:=hid (HY.out (HA.out.2 (.inr ⟨hp0,.inr hU⟩)))
         have hb3:((c.toNat:Int) != 95)=false:=by rw[hU];rfl
         clear HY HN HA hp0 hU
         go_wp2_with (first | (go_at_call 122;refine(Jw _ _).mono ?_;rintro e w' ⟨rfl,rfl⟩;rw[hL]) | (go_at_call 123;refine(Jv _ _).mono ?_;rintro e w' ⟨rfl,rfl⟩;rw[hD]))
         exact⟨⟨pos+1,rfl,by omega,HR⟩,by rw[World.iterPos_iter,World.iterPos_iter];omega⟩
        ·have Hno:=hid (HN.out (fun h=>by
          rcases HA.out.1 h with h | ⟨_,h | h⟩
          ·rw[hL] at h;cases h
          ·rw[hD] at h;cases h
          ·exact hU h))
         have hb3:((c.toNat:Int) != 95)=true:=by simpa using (by omega:¬(c.toNat:Int)=95)
         clear HY HN HA hp0 hU
         go_wp2_with (first | (go_at_call 122;refine(Jw _ _).mono ?_;rintro e w' ⟨rfl,rfl⟩;rw[hL]) | (go_at_call 123;refine(Jv _ _).mono ?_;rintro e w' ⟨rfl,rfl⟩;rw[hD]))
         go_ret;exact⟨false,rfl,by simp;exact Hno.out,(Below.refl _ _).alloc (Nat.le_refl _) _⟩
    ·have hnx:=fun ty=>run_next_any (P:=Tryz.prog) w s pos ty hlt
     obtain⟨hr1,hr2⟩:=decode_high s pos hlt (by omega)
     have hD:xc ((Utf8.decode s pos).1:Int)=false:=by unfold xc;simp;omega
     have hL:xd ((Utf8.decode s pos).1:Int)=false:=by unfold xd;simp;omega
     have hb3:(((Utf8.decode s pos).1:Int) != 95)=true:=by simpa using (by omega:¬((Utf8.decode s pos).1:Int)=95)
     have Hno:=hid (V4 hge (by
      rintro (h | ⟨_,h | h⟩)
      ·have:=of_decide_eq_true h;omega
      ·have:=of_decide_eq_true h;omega
      ·omega))
     clear hge hd hasc;by_cases hp0:pos=0
     ·have hb2:((pos:Int)==0)=true:=by rw[hp0];rfl
      clear hp0;generalize Utf8.decode s pos=dd at *
      go_wp2_with (go_at_call 122;refine(Jw _ _).mono ?_;rintro e w' ⟨rfl,rfl⟩;rw[hL])
      go_ret;exact⟨false,rfl,by simp;exact Hno.out,(Below.refl _ _).alloc (Nat.le_refl _) _⟩
     ·have hb2:((pos:Int)==0)=false:=by simpa using hp0
      clear hp0;generalize Utf8.decode s pos=dd at *
      go_wp2_with (first | (go_at_call 122;refine(Jw _ _).mono ?_;rintro e w' ⟨rfl,rfl⟩;rw[hL]) | (go_at_call 123;refine(Jv _ _).mono ?_;rintro e w' ⟨rfl,rfl⟩;rw[hD]))
      go_ret;exact⟨false,rfl,by simp;exact Hno.out,(Below.refl _ _).alloc (Nat.le_refl _) _⟩
   ·have hnx:=fun ty=>run_next_end (P:=Tryz.prog) w s pos ty hlt
    have hlen:s.data.toList.length=s.size:=by simp
    have Hyes:Hid (Ky s.data.toList):=hid ⟨HNB.out,fun i hi c hc=>hd.out i (by omega) c hc⟩;clear hlen;clear hd
    go_wp2
    go_ret;exact⟨true,rfl,by simp;exact Hyes.out,(Below.refl _ _).alloc (Nat.le_refl _) _⟩
 ·have hb1:((s.size:Int)>24):=by omega
  have hno:¬Ky s.data.toList:=fun h=>h24 (by simpa using h.1.2)
  have Hno:=hid hno;clear hno h0 h24;go_enter Tryz.func32,Tryz.ntmps32
  go_wp2
  go_ret;exact⟨false,rfl,by simp;exact Hno.out,Below.refl _ _⟩
@[irreducible] def j4:Nat:=400000
theorem Xf:j4+j4+1≤xo:=by unfold j4 xo;decide
def ks (q:Rat):Prop:=q.num.natAbs<B9^j4∧q.den<B9^j4
theorem qZ {x:Nat} (h:x<B9^j4):jN x:=Nat.lt_of_lt_of_le h (Nat.pow_le_pow_right (by decide) (by have:=Xf;omega))
theorem K2 {a b:Nat} (ha:a<B9^j4) (hb:b<B9^j4):a*b<B9^(j4+j4):=by
 rw[Nat.pow_add];exact Nat.mul_lt_mul'' ha hb
theorem Ke {a b:Nat} (ha:a<B9^j4) (hb:b<B9^j4):jN (a*b):=Nat.lt_of_lt_of_le (K2 ha hb) (Nat.pow_le_pow_right (by decide) (by have:=Xf;omega))
theorem Uo {a b:Nat} (ha:a<B9^(j4+j4)) (hb:b<B9^(j4+j4)):jN (a+b):=by
 have h1:B9^(j4+j4+1)≤B9^xo:=Nat.pow_le_pow_right (by decide) Xf;have h2:B9^(j4+j4)*2≤B9^(j4+j4)*B9:=Nat.mul_le_mul_left _ (by decide);rw[Nat.pow_succ] at h1;unfold jN;omega
theorem ks.digits {x:Nat} (h:x<B9^j4):(decDigits x).length≤9000000:=by
 rw[decDigits_length]
 have h2:B9^j4=10^(9*j4):=by rw[Nat.pow_mul]
 have h3:10^(9*j4)≤10^(9*j4+1):=Nat.pow_le_pow_right (by decide) (by omega);have h4:=zC (9*j4) x (by rw[h2] at h;omega);have h5:=Xf;have:=YX;omega
theorem ks.bigD {q:Rat} (h:ks q):Kx q:=⟨ks.digits h.1,ks.digits h.2⟩
theorem Z6 (p q:Rat) (w:World) (hp:ks p) (hq:ks q):
  Calls Tryz.prog 26 #[.string ⟨(jg p).toArray⟩,.string ⟨(jg q).toArray⟩] w (kn (jg (p+q)) w):=by
 by_cases hs:qm p∧qm q
 ·exact Ms p q w hs.1 hs.2
 ·have m1:=K2 hp.1 hq.2
  have m2:=K2 hq.1 hp.2
  refine Mr _ _ _ (decide (qm p)) (decide (qm q)) ?_ (p.num*q.den) (q.num*p.den) (p.num*q.den+q.num*p.den) ((p.den:Int)*q.den) p.num q.num p.den q.den w (hid fun W=>Xu p W) (hid fun W=>Xu q W) (hid fun W=>Ki p W hp.bigD) (hid fun W=>Ki q W hq.bigD)
   (hid fun W a b ha hb=>Qh a b _ _ W ha hb (qZ hp.1) (by rw[Int.natAbs_natCast];exact qZ hq.2)) (hid fun W a b ha hb=>Qh a b _ _ W ha hb (qZ hq.1) (by rw[Int.natAbs_natCast];exact qZ hp.2))
   (hid fun W a b ha hb=>BR a b _ _ W ha hb (by rw[Int.natAbs_mul,Int.natAbs_natCast];exact Ke hp.1 hq.2) (by rw[Int.natAbs_mul,Int.natAbs_natCast];exact Ke hq.1 hp.2))
   (hid fun W a b ha hb=>Qh a b _ _ W ha hb (by rw[Int.natAbs_natCast];exact qZ hp.2) (by rw[Int.natAbs_natCast];exact qZ hq.2))
   (hid fun W a b ha hb=> ?_)
  ·by_cases h1:qm p
   ·have h2:¬qm q:=fun h=>hs ⟨h1,h⟩
    rw[decide_eq_false h2,Bool.and_false]
   ·rw[decide_eq_false h1,Bool.false_and]
  ·rw[←Int.natCast_mul] at hb
   have hle:(p.num*(q.den:Int)+q.num*(p.den:Int)).natAbs≤p.num.natAbs*q.den+q.num.natAbs*p.den:=by
    have:=Int.natAbs_add_le (p.num*(q.den:Int)) (q.num*(p.den:Int));rw[Int.natAbs_mul,Int.natAbs_mul,Int.natAbs_natCast,Int.natAbs_natCast] at this;exact this
   have h:=YR a b _ _ W ha hb (Nat.mul_pos p.den_pos q.den_pos) ((Uo m1 m2).le hle) (Ke hp.2 hq.2);rw[JC,←Rat.add_def'] at h;exact h
theorem Uc (p q:Rat) (w:World) (hp:ks p) (hq:ks q):
  Calls Tryz.prog 28 #[.string ⟨(jg p).toArray⟩,.string ⟨(jg q).toArray⟩] w (kn (jg (p*q)) w):=by
 by_cases hs:qm p∧qm q
 ·exact MQ p q w hs.1 hs.2
 ·refine MP _ _ _ (decide (qm p)) (decide (qm q)) ?_ (p.num*q.num) ((p.den:Int)*q.den) p.num q.num p.den q.den w (hid fun W=>Xu p W) (hid fun W=>Xu q W) (hid fun W=>Ki p W hp.bigD) (hid fun W=>Ki q W hq.bigD)
   (hid fun W a b ha hb=>Qh a b _ _ W ha hb (qZ hp.1) (qZ hq.1))
   (hid fun W a b ha hb=>Qh a b _ _ W ha hb (by rw[Int.natAbs_natCast];exact qZ hp.2) (by rw[Int.natAbs_natCast];exact qZ hq.2))
   (hid fun W a b ha hb=> ?_)
  ·by_cases h1:qm p
   ·have h2:¬qm q:=fun h=>hs ⟨h1,h⟩
    rw[decide_eq_false h2,Bool.and_false]
   ·rw[decide_eq_false h1,Bool.false_and]
  ·rw[←Int.natCast_mul] at hb
   have h:=YR a b _ _ W ha hb (Nat.mul_pos p.den_pos q.den_pos) (by rw[Int.natAbs_mul];exact Ke hp.1 hq.1) (Ke hp.2 hq.2);rw[JC,←Rat.mul_def'] at h;exact h
theorem Sf {n:Nat} (h:decDigits n=[48]):n=0:=by
 have:=congrArg jf h;rw[y4] at this;exact this
theorem Ck:jg 0=[48]:=by unfold jg;rw[if_neg (by decide),if_pos (by decide)];exact(by rw[List.nil_append,List.append_nil];exact decDigits_one (by decide))
theorem Qk (q:Rat):jg q=[48]↔q=0:=by
 constructor
 ·intro h
  have h1:=congrArg List.length h;have hl:=yZ q.num.natAbs;unfold jg at h h1;by_cases hn:q.num<0
  ·rw[if_pos hn,List.length_append,List.length_append] at h1
   simp only[List.length_cons,List.length_nil] at h1;omega
  ·rw[if_neg hn] at h h1
   by_cases hd:q.den=1
   ·rw[if_pos hd] at h
    have h3:q.num.natAbs=0:=Sf (by simpa using h);exact Rat.num_eq_zero.1 (by omega)
   ·rw[if_neg hd,List.length_append,List.length_append] at h1
    simp only[List.length_cons,List.length_nil] at h1;omega
 ·rintro rfl;exact Ck
theorem Qj (q:Rat):(jg q)[0]? =some 45↔q.num<0:=by
 unfold jg;by_cases h:q.num<0
 ·rw[if_pos h];simp[h]
 ·rw[if_neg h,List.nil_append,List.getElem?_append_left (yZ _)]
  constructor
  ·intro h2
   have:=qw q.num.natAbs 45 (List.mem_of_getElem? h2);exact absurd this.1 (by decide)
  ·intro h2;exact absurd h2 h
theorem Ks (q:Rat):kP (jg q)=j5 q:=by
 unfold kP;by_cases h0:q=0
 ·rw[if_pos ((Qk q).2 h0)];subst h0;rfl
 ·rw[if_neg (fun h=>h0 ((Qk q).1 h))]
  have hn:q.num≠0:=fun h=>h0 (Rat.num_eq_zero.1 h)
  by_cases h1:q.num<0
  ·rw[if_pos ((Qj q).2 h1)];unfold j5;simp[hn,h1]
  ·rw[if_neg (fun h=>h1 ((Qj q).1 h))];unfold j5;simp[hn,h1]
theorem Cj (q:Rat):jg (-q)=if q.num<0 then (jg q).drop 1 else if q=0 then jg q else 45::jg q:=by
 have hn:(-q).num = -q.num:=Rat.neg_num q;have hd:(-q).den=q.den:=Rat.neg_den q;by_cases h:q.num<0
 ·rw[if_pos h]
  unfold jg;rw[hn,hd,if_neg (by omega),if_pos h,Int.natAbs_neg]
  simp
 ·rw[if_neg h]
  by_cases h0:q=0
  ·rw[if_pos h0];subst h0;rfl
  ·rw[if_neg h0]
   have hne:q.num≠0:=fun h=>h0 (Rat.num_eq_zero.1 h)
   unfold jg;rw[hn,hd,if_pos (by omega),if_neg h,Int.natAbs_neg]
   simp
theorem Gm (q:Rat) (h:Kx q):(jg q).length≤4000000000000000000:=by
 obtain⟨h1,h2⟩:=h;unfold jg;rw[List.length_append,List.length_append]
 split <;> split <;> simp <;> omega
theorem MS (q:Rat) (w:World) (h:Kx q):Calls Tryz.prog 120 #[.string ⟨(jg q).toArray⟩] w (kn (jg (-q)) w):=by
 have hl:=Gm q h;have SG:=hid (fun W=>Km (jg q) W hl);rw[Ks] at SG;have HN:=hid (Cj q);generalize hss:(⟨(jg q).toArray⟩:ByteArray)=s at *
 have hs:s.data.toList=jg q:=by rw[←hss]
 have hz:=kw hs;have HSS:=hid hss;clear hss
 have hr:j5 q=if q.num<0 then -1 else if q=0 then 0 else 1:=by
  rw[←Ks];unfold kP;by_cases h1:q.num<0
  ·rw[if_pos h1,if_neg (fun h=>by have:=(Qk q).1 h;subst this;exact absurd h1 (by decide)),if_pos ((Qj q).2 h1)]
  ·rw[if_neg h1]
   by_cases h0:q=0
   ·rw[if_pos h0,if_pos ((Qk q).2 h0)]
   ·rw[if_neg h0,if_neg (fun h=>h0 ((Qk q).1 h)),if_neg (fun h=>h1 ((Qj q).1 h))]
 by_cases h1:q.num<0
 ·rw[if_pos h1] at hr
  rw[hr] at SG
  have hz1:(1:Int)≤(s.size:Int):=by
   have:=(Qj q).2 h1;rw[List.getElem?_eq_some_iff] at this;obtain⟨h2,_⟩:=this;omega
  have HE:Hid (s.extract 1 s.size=⟨(jg (-q)).toArray⟩):=hid (by
   rw[Qo (s.extract 1 s.size),xD hs,HN.out,if_pos h1,hz,List.take_of_length_le (Nat.le_refl _)])
  clear hr h1 hs hz HN;go_enter Tryz.func120,Tryz.ntmps120
  go_wp2_with fail
  refine(SG.out _).mono ?_;rintro e w1 ⟨rfl,rfl⟩
  go_wp2
  go_ret;exact⟨by rw[←HE.out];rfl,Below.refl _ _⟩
 ·rw[if_neg h1] at hr
  by_cases h0:q=0
  ·rw[if_pos h0] at hr
   rw[hr] at SG;have HE:Hid (s=⟨(jg (-q)).toArray⟩):=hid (by rw[←HSS.out,HN.out,if_neg h1,if_pos h0]);clear hr h1 hs hz HN h0;go_enter Tryz.func120,Tryz.ntmps120
   go_wp2_with fail
   refine(SG.out _).mono ?_;rintro e w1 ⟨rfl,rfl⟩
   go_wp2_with fail
   refine(SG.out _).mono ?_;rintro e w1 ⟨rfl,rfl⟩
   go_wp2
   go_ret;exact⟨by rw[←HE.out];rfl,Below.refl _ _⟩
  ·rw[if_neg h0] at hr
   rw[hr] at SG;have HE:Hid ((ByteArray.mk #[45]:ByteArray)++s=⟨(jg (-q)).toArray⟩):=hid (by rw[←HSS.out,HN.out,if_neg h1,if_neg h0,KH])
   have hzI:(s.size:Int)≤4000000000000000000:=by omega
   clear hr h1 hs hz HN h0;go_enter Tryz.func120,Tryz.ntmps120
   go_wp2_with fail
   refine(SG.out _).mono ?_;rintro e w1 ⟨rfl,rfl⟩
   go_wp2_with fail
   refine(SG.out _).mono ?_;rintro e w1 ⟨rfl,rfl⟩
   go_wp2
   go_ret;exact⟨by rw[←HE.out];rfl,Below.refl _ _⟩
theorem ks.neg {q:Rat} (h:ks q):ks (-q):=by
 unfold ks;rw[Rat.neg_num,Rat.neg_den,Int.natAbs_neg];exact h
theorem Uh (p q:Rat) (w:World) (hp:ks p) (hq:ks q):
  Calls Tryz.prog 27 #[.string ⟨(jg p).toArray⟩,.string ⟨(jg q).toArray⟩] w (kn (jg (p-q)) w):=by
 have NG:=hid (fun W=>MS q W hq.bigD);have AD:=hid (fun W=>Z6 p (-q) W hp hq.neg);rw[←Rat.sub_eq_add_neg] at AD;generalize (⟨(jg p).toArray⟩:ByteArray)=s at *;generalize (⟨(jg q).toArray⟩:ByteArray)=t at *;go_enter Tryz.func27,Tryz.ntmps27
 go_wp2_with fail
 refine(NG.out _).mono ?_;rintro e w1 ⟨rfl,hB1⟩
 go_wp2_with fail
 refine(AD.out _).mono ?_;rintro e w2 ⟨rfl,hB2⟩
 go_wp2
 go_ret;exact⟨rfl,hB1.trans (hB2.mono hB1.size)⟩
def Eu (n:Int) (w:World) (e:Ending) (w':World):Prop:=e = .returned (.int .i64 n)∧Below w.heap.size w w'
theorem Xk (a:Int) (d:Nat) (hd:d≠0):(mkRat a d).num.natAbs≤a.natAbs∧(mkRat a d).den≤d:=by
 obtain⟨m,hm,h1,h2⟩:=Rat.mkRat_num_den hd (rfl:mkRat a d=⟨(mkRat a d).num,(mkRat a d).den,(mkRat a d).den_nz,(mkRat a d).reduced⟩);constructor
 ·conv=>rhs;rw[h1]
  rw[Int.natAbs_mul,Int.natAbs_natCast];exact Nat.le_mul_of_pos_right _ (by omega)
 ·conv=>rhs;rw[h2]
  exact Nat.le_mul_of_pos_right _ (by omega)
theorem Up (p q:Rat):(p+q).num.natAbs≤p.num.natAbs*q.den+q.num.natAbs*p.den∧(p+q).den≤p.den*q.den:=by
 rw[Rat.add_def'];obtain⟨h1,h2⟩:=Xk (p.num*(q.den:Int)+q.num*(p.den:Int)) (p.den*q.den) (Nat.mul_ne_zero p.den_nz q.den_nz);refine⟨Nat.le_trans h1 ?_,h2⟩;have:=Int.natAbs_add_le (p.num*(q.den:Int)) (q.num*(p.den:Int));rw[Int.natAbs_mul,Int.natAbs_mul,Int.natAbs_natCast,Int.natAbs_natCast] at this;exact this
def Qu (q:Rat):Prop:=jN q.num.natAbs∧jN q.den
theorem Qu.len {q:Rat} (h:Qu q):(jg q).length≤4000000000000000000:=by
 have h1:=JY h.1;have h2:=JY h.2;unfold jg;rw[List.length_append,List.length_append]
 split <;> split <;> simp <;> omega
theorem ks.add {p q:Rat} (hp:ks p) (hq:ks q):Qu (p+q):=
 ⟨(Uo (K2 hp.1 hq.2) (K2 hq.1 hp.2)).le (Up p q).1,(Ke hp.2 hq.2).le (Up p q).2⟩
theorem ks.sub {p q:Rat} (hp:ks p) (hq:ks q):Qu (p-q):=by rw[Rat.sub_eq_add_neg];exact hp.add hq.neg
theorem Z7 (p q:Rat) (w:World) (hp:ks p) (hq:ks q):
  Calls Tryz.prog 29 #[.string ⟨(jg p).toArray⟩,.string ⟨(jg q).toArray⟩] w (Eu (j5 (p-q)) w):=by
 have SB:=hid (fun W=>Uh p q W hp hq);have SG:=hid (fun W=>Km (jg (p-q)) W (hp.sub hq).len);rw[Ks] at SG;generalize (⟨(jg p).toArray⟩:ByteArray)=s at *;generalize (⟨(jg q).toArray⟩:ByteArray)=t at *;generalize jg (p-q)=d at *;generalize j5 (p-q)=r at *;go_enter Tryz.func29,Tryz.ntmps29
 go_wp2_with fail
 refine(SB.out _).mono ?_;rintro e w1 ⟨rfl,hB1⟩
 go_wp2_with fail
 refine(SG.out _).mono ?_;rintro e w2 ⟨rfl,rfl⟩
 go_wp2
 go_ret;exact⟨rfl,hB1⟩
theorem WQ (x:Rat):(-x)⁻¹ = -x⁻¹:=by
 by_cases h:x=0
 ·subst h;simp
 ·exact Rat.inv_eq_of_mul_eq_one (by rw[Rat.mul_neg,Rat.neg_mul,Rat.neg_neg,Rat.mul_inv_cancel _ h])
theorem Vw (q:Rat):q⁻¹=((q.den:Int):Rat)/((q.num:Int):Rat):=by
 rw[←Rat.divInt_eq_div]
 conv=>lhs;rw[←Rat.mkRat_self q,←Rat.divInt_ofNat,Rat.inv_divInt]
theorem MY (s:ByteArray) (l:List UInt8) (x y:Int) (w:World) (PA:Hid (∀W,Calls Tryz.prog 105 #[.string s] W (xH x y W)))
  (FR:Hid (∀W a b,Ri W a y→Ri W b x→Calls Tryz.prog 117 #[a,b] W (kn l W))):
  Calls Tryz.prog 121 #[.string s] w (kn l w):=by
 go_enter Tryz.func121,Tryz.ntmps121
 go_wp2_with fail
 refine(PA.out _).mono ?_;rintro e w1 ⟨vp,vq,rfl,rp,rq,hB1⟩;obtain⟨Ap,np,cp,rfl,_,_⟩:=rp.open_;obtain⟨Aq,nq_,cq,rfl,_,_⟩:=rq.open_;generalize decide (x<0)=bp at *;generalize decide (y<0)=bq at *;obtain⟨W1,hW1,hBW1,hz1,o1,o2,rp1,rq1⟩:=zk rp rq
 go_upto_region 2 with fail
 rw[←hW1];have HB1:=hid (hB1.trans (hBW1.mono hB1.size));have HF:=hid (FR.out W1 _ _ rq1 rp1);obtain⟨a0,a1⟩:=o1.cell2;obtain⟨b0,b1⟩:=o2.cell2;clear hW1 hBW1 hz1 o1 o2 rp1 rq1 rp rq hB1 FR PA
 go_wp2_with fail
 refine HF.out.mono ?_;rintro e w2 ⟨rfl,hB2⟩;have HBF:=hid (HB1.out.trans (hB2.mono HB1.out.size));clear hB2 HF
 go_wp2
 go_ret;exact⟨rfl,HBF.out⟩
theorem MX (q:Rat) (w:World) (hq:ks q) (h0:q≠0):
  Calls Tryz.prog 121 #[.string ⟨(jg q).toArray⟩] w (kn (jg q⁻¹) w):=by
 have hn:q.num≠0:=fun h=>h0 (Rat.num_eq_zero.1 h)
 refine MY _ _ q.num q.den w (hid fun W=>Ki q W hq.bigD) (hid fun W a b ha hb=> ?_);rw[Vw];by_cases h1:q.num<0
 ·have e:q.num = -((q.num.natAbs:Nat):Int):=by omega
  have h:=Tw a b (-(q.den:Int)) q.num.natAbs W (by rw[Int.neg_neg];exact ha) (by rw[←e];exact hb) (by omega) (by rw[Int.natAbs_neg,Int.natAbs_natCast];exact qZ hq.2) (qZ hq.1)
  have e2:(((-(q.den:Int):Int)):Rat)/(((q.num.natAbs:Nat):Int):Rat)=((q.den:Int):Rat)/((q.num:Int):Rat):=by
   conv=>rhs;rw[e]
   rw[Rat.intCast_neg,Rat.intCast_neg,Rat.div_def,Rat.div_def,WQ,Rat.mul_neg,Rat.neg_mul]
  rw[e2] at h;exact h
 ·have e:q.num=((q.num.natAbs:Nat):Int):=by omega
  have h:=YR a b (q.den:Int) q.num.natAbs W ha (by rw[←e];exact hb) (by omega) (by rw[Int.natAbs_natCast];exact qZ hq.2) (qZ hq.1);rw[←e] at h;exact h
theorem ks.inv {q:Rat} (h:ks q) (h0:q≠0):ks q⁻¹:=by
 have hn:q.num≠0:=fun h=>h0 (Rat.num_eq_zero.1 h)
 have key:q⁻¹.num.natAbs≤q.den∧q⁻¹.den≤q.num.natAbs:=by
  rw[Vw];by_cases h1:q.num<0
  ·have e:((q.den:Int):Rat)/((q.num:Int):Rat)=mkRat (-(q.den:Int)) q.num.natAbs:=by
    have e:q.num = -((q.num.natAbs:Nat):Int):=by omega
    rw[←JC]
    conv=>lhs;rw[e]
    rw[Rat.intCast_neg,Rat.intCast_neg,Rat.div_def,Rat.div_def,WQ,Rat.mul_neg,Rat.neg_mul]
   rw[e];have:=Xk (-(q.den:Int)) q.num.natAbs (by omega);rw[Int.natAbs_neg,Int.natAbs_natCast] at this;exact this
  ·have e:((q.den:Int):Rat)/((q.num:Int):Rat)=mkRat (q.den:Int) q.num.natAbs:=by
    have e:q.num=((q.num.natAbs:Nat):Int):=by omega
    rw[←JC,←e]
   rw[e];have:=Xk (q.den:Int) q.num.natAbs (by omega);rw[Int.natAbs_natCast] at this;exact this
 exact⟨Nat.lt_of_le_of_lt key.1 h.2,Nat.lt_of_le_of_lt key.2 h.1⟩
theorem ME (p q:Rat) (w:World) (hp:ks p) (hq:ks q) (h0:q≠0):
  Calls Tryz.prog 31 #[.string ⟨(jg p).toArray⟩,.string ⟨(jg q).toArray⟩] w (kn (jg (p/q)) w):=by
 have RC:=hid (fun W=>MX q W hq h0);have MU:=hid (fun W=>Uc p q⁻¹ W hp (hq.inv h0));rw[←Rat.div_def] at MU;generalize (⟨(jg p).toArray⟩:ByteArray)=s at *;generalize (⟨(jg q).toArray⟩:ByteArray)=t at *;go_enter Tryz.func31,Tryz.ntmps31
 go_wp2_with fail
 refine(RC.out _).mono ?_;rintro e w1 ⟨rfl,hB1⟩
 go_wp2_with fail
 refine(MU.out _).mono ?_;rintro e w2 ⟨rfl,hB2⟩
 go_wp2
 go_ret;exact⟨rfl,hB1.trans (hB2.mono hB1.size)⟩
