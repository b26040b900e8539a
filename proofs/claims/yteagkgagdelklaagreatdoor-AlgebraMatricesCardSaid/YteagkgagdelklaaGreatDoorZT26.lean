/- Contracts: the reference's comparisons of lists and matrices of texts. -/
import Derived.Test.YteagkgagdelklaaGreatDoorZT14
import Derived.Test.YteagkgagdelklaaGreatDoorZT25
set_option maxRecDepth 100000
set_option maxHeartbeats 8000000
namespace Go.Proofs.YteagkgagdelklaaGreatDoor
open Go.RowKit Go.Lib
theorem Da {p q:List jl} {k:Nat} (hk:k<p.length) (hl:p.length=q.length) (h:(decide (p.drop k=q.drop k))=decide (p=q)) (he:p[k]?.getD []=q[k]?.getD []):decide (p.drop (k+1)=q.drop (k+1))=decide (p=q):=by
 have hq:k<q.length:=by omega
 refine Zl hk hl h ?_;rw[Qaa hk,Qaa hq] at he ⊢;simp only[Qbl] at he;rw[he]
theorem N9 {p q:List jl} {k:Nat} (he:p[k]?.getD []≠q[k]?.getD []):decide (p=q)=false:=
 Zk (k:=k) (fun h=>he (by rw[h]))
theorem My (v u:Value) (p q:List jl) (w:World) (hv:jD w v (jN p)) (hu:jD w u (jN q)):
  Calls Tryz.prog 31 #[v,u] w fun e w'=>e = .returned (.bool (decide (p=q)))∧Below w.heap.size w w':=by
 obtain⟨A,c,rfl,hc1,hc2⟩:=hv.form;obtain⟨B,d,rfl,gc1,gc2⟩:=hu.form;simp only[kT] at hc1 hc2 hv gc1 gc2 hu ⊢
 obtain⟨r,hr⟩:∃r,decide (p=q)=r:=⟨_,rfl⟩
 have HR:=hid hr;rw[hr];by_cases hl:p.length=q.length
 ·have hb:((p.length:Int) != (q.length:Int))=false:=by rw[hl];simp
  have HL:=hid hl;clear hr hl;go_enter Tryz.func31,Tryz.ntmps31
  go_wp2_with fail
  go_loopg [5] p.length (fun g i wr=>∃(k:Nat),k+g=p.length∧i = .int .i64 k∧Hid (decide (p.drop k=q.drop k)=decide (p=q))∧Below w.heap.size w wr)
  case atStart=>exact⟨0,by omega,rfl,hid rfl,Below.refl _ _⟩
  case round=>
   obtain⟨k,hk,rfl,hD,hB⟩:=hrel
   cases gk with
   | zero=>
    have hin:¬((k:Int)<(p.length:Int)):=by omega
    have HT:Hid (r=true):=hid (by
     rw[←HR.out,←hD.out,Qa4 (by omega),Qa4 (by have:=HL.out;omega)];rfl)
    clear hk
    go_wp2
    go_ret;exact⟨by rw[HT.out];rfl,hB⟩
   | succ g=>
    have hlt:k<p.length:=by omega
    have hlq:k<q.length:=by have:=HL.out;omega
    obtain⟨b1,off1,rfl,hbb1,hcell1⟩:=hv.at_ (k:=k) (by rw[kT];omega);obtain⟨b2,off2,rfl,hbb2,hcell2⟩:=hu.at_ (k:=k) (by rw[kT];omega);have hck1:=(hB.cell (p:=⟨b1,off1+k,none⟩) hbb1).trans ((hcell1 k (by rw[kT];omega)).trans (JM p k hlt));have hck2:=(hB.cell (p:=⟨b2,off2+k,none⟩) hbb2).trans ((hcell2 k (by rw[kT];omega)).trans (JM q k hlq));have Hstep:=hid (fun he=>Da hlt HL.out hD.out he);have Hdiff:=hid (fun he=>N9 (p:=p) (q:=q) (k:=k) he);have Hk:=hid hk;clear hcell1 hcell2 hv hu hk;generalize p[k]?.getD []=x at *;generalize q[k]?.getD []=y at *;unfold sv at hck1 hck2;by_cases he:x=y
    ·have Hs:=hid (Hstep.out he)
     have hxy:(x==y)=true:=by simpa using he
     clear he
     go_wp2
     go_quiet (fail)
     have hB':=below_drewN hB nq
     go_wp2
     go_roundg g
     case rel=>exact⟨k+1,by have:=Hk.out;omega,by go_num,Hs,hB'⟩
     case measure=>omega
    ·have Hs:=hid (Hdiff.out he)
     have hxy:(x==y)=false:=by simpa using he
     clear he;have HF:Hid (r=false):=hid (by rw[←HR.out];exact Hs.out)
     go_wp2
     go_quiet (fail)
     have hB':=below_drewN hB nq
     go_wp2
     go_ret;exact⟨by rw[HF.out];rfl,hB'⟩
 ·have hb:((p.length:Int) != (q.length:Int))=true:=by simpa using (by omega:¬(p.length:Int)=q.length)
  have hne:p≠q:=by intro h;subst h;exact hl rfl
  have HF:Hid (r=false):=hid (by rw[←hr];simpa using hne);clear hr hne hl;go_enter Tryz.func31,Tryz.ntmps31
  go_wp2
  go_ret;exact⟨by rw[HF.out];rfl,Below.refl _ _⟩
theorem Mx (v u:Value) (P Q:List (List jl)) (w:World) (hv:jT w v P) (hu:jT w u Q):
  Calls Tryz.prog 30 #[v,u] w fun e w'=>e = .returned (.bool (decide (P=Q)))∧Below w.heap.size w w':=by
 obtain⟨vs,hvs,hvl,hvr⟩:=hv;obtain⟨us,hus,hul,hur⟩:=hu;obtain⟨A,c,rfl,hc1,hc2⟩:=hvs.form;obtain⟨B,d,rfl,gc1,gc2⟩:=hus.form;rw[hvl] at hvs hc1 hc2;rw[hul] at hus gc1 gc2
 obtain⟨r,hr⟩:∃r,decide (P=Q)=r:=⟨_,rfl⟩
 have HR:=hid hr;rw[hr,hvl,hul];by_cases hl:P.length=Q.length
 ·have hb:((P.length:Int) != (Q.length:Int))=false:=by rw[hl];simp
  have HL:=hid hl;have HVR:=hid hvr;have HUR:=hid hur;clear hr hl hvr hur;go_enter Tryz.func30,Tryz.ntmps30
  go_wp2_with fail
  go_loopg [5] P.length (fun g i wr=>∃(k:Nat),k+g=P.length∧i = .int .i64 k∧Hid (decide (P.drop k=Q.drop k)=decide (P=Q))∧Below w.heap.size w wr)
  case atStart=>exact⟨0,by omega,rfl,hid rfl,Below.refl _ _⟩
  case round=>
   obtain⟨k,hk,rfl,hD,hB⟩:=hrel
   cases gk with
   | zero=>
    have hin:¬((k:Int)<(P.length:Int)):=by omega
    have HT:Hid (r=true):=hid (by
     rw[←HR.out,←hD.out,Qa4 (by omega),Qa4 (by have:=HL.out;omega)];rfl)
    clear hk
    go_wp2
    go_ret;exact⟨by rw[HT.out];rfl,hB⟩
   | succ g=>
    have hlt:k<P.length:=by omega
    have hlq:k<Q.length:=by have:=HL.out;omega
    obtain⟨v1,hv1,hs1⟩:=HVR.out k _ (Qaa hlt);obtain⟨u1,hu1,ht1⟩:=HUR.out k _ (Qaa hlq);obtain⟨b1,off1,rfl,hbb1,hcell1⟩:=hvs.at_ (k:=k) (by rw[hvl];omega);obtain⟨b2,off2,rfl,hbb2,hcell2⟩:=hus.at_ (k:=k) (by rw[hul];omega);have hck1:=(hB.cell (p:=⟨b1,off1+k,none⟩) hbb1).trans ((hcell1 k (by rw[hvl];omega)).trans hv1);have hck2:=(hB.cell (p:=⟨b2,off2+k,none⟩) hbb2).trans ((hcell2 k (by rw[hul];omega)).trans hu1);have Hstep:=hid (fun he=>Zl hlt HL.out hD.out he);have Hdiff:=hid (fun he=>Zk (p:=P) (q:=Q) (k:=k) he);rw[Qaa hlt,Qaa hlq] at Hstep Hdiff;have Hk:=hid hk;have hbl1:=Qac hbb1 hB.size;have hbl2:=Qac hbb2 hB.size;have SI:=hid (fun (W:World) (hb:Below wr.heap.size wr W)=>My v1 u1 P[k] Q[k] W ((hs1.below hB).below hb) ((ht1.below hB).below hb))
    have KS:Hid (∀z,Below wr.heap.size wr z→z.cell? ⟨b1,off1+k,none⟩=some v1∧z.cell? ⟨b2,off2+k,none⟩=some u1∧Below wr.heap.size wr z):=hid (fun z hb=>
     ⟨(hb.cell (p:=⟨b1,off1+k,none⟩) hbl1).trans hck1,(hb.cell (p:=⟨b2,off2+k,none⟩) hbl2).trans hck2,hb⟩)
    have KT:=hid (fun (x x':World) (hb:Below x.heap.size x x') (h5:Below wr.heap.size wr x)=>KS.out x' (h5.trans (hb.mono h5.size)));have HB:=hid hB;clear hcell1 hcell2 hvs hus hk hs1 ht1 hv1 hu1 hB hD;generalize P[k]=x at *;generalize Q[k]=y at *
    obtain⟨bb,hbb⟩:∃bb,decide (x=y)=bb:=⟨_,rfl⟩
    rw[hbb] at SI
    cases bb with
    | true=>
     have Hs:=hid (Hstep.out (by rw[QaL hbb]));clear hbb Hstep Hdiff
     go_wp2
     go_region_held3 (fun z=>z.cell? ⟨b1,off1+k,none⟩=some v1∧z.cell? ⟨b2,off2+k,none⟩=some u1∧Below wr.heap.size wr z)
      (first | exact KS.out _ (Below.refl _ _).drew | exact KT.out _ _ (by assumption) (by assumption))
      (first | (go_at_call 31;go_split_ands;refine(SI.out _ (by assumption)).mono ?_;rintro e4 w4 ⟨rfl,hB4⟩))
     have hB':Below w.heap.size w w4:=by go_split_ands;exact HB.out.trans (by rename_i h;exact h.mono HB.out.size)
     go_wp2
     go_roundg g
     case rel=>exact⟨k+1,by have:=Hk.out;omega,by go_num,Hs,hB'⟩
     case measure=>omega
    | false=>
     have Hs:=hid (Hdiff.out (fun h=>of_decide_eq_false hbb (QaE h)));clear hbb Hstep Hdiff;have HF:Hid (r=false):=hid (by rw[←HR.out];exact Hs.out)
     go_wp2
     go_region_held3 (fun z=>z.cell? ⟨b1,off1+k,none⟩=some v1∧z.cell? ⟨b2,off2+k,none⟩=some u1∧Below wr.heap.size wr z)
      (first | exact KS.out _ (Below.refl _ _).drew | exact KT.out _ _ (by assumption) (by assumption))
      (first | (go_at_call 31;go_split_ands;refine(SI.out _ (by assumption)).mono ?_;rintro e4 w4 ⟨rfl,hB4⟩))
     have hB':Below w.heap.size w w4:=by go_split_ands;exact HB.out.trans (by rename_i h;exact h.mono HB.out.size)
     go_wp2
     go_ret;exact⟨by rw[HF.out];rfl,hB'⟩
 ·have hb:((P.length:Int) != (Q.length:Int))=true:=by simpa using (by omega:¬(P.length:Int)=Q.length)
  have hne:P≠Q:=by intro h;subst h;exact hl rfl
  have HF:Hid (r=false):=hid (by rw[←hr];simpa using hne);clear hr hne hl;go_enter Tryz.func30,Tryz.ntmps30
  go_wp2
  go_ret;exact⟨by rw[HF.out];rfl,Below.refl _ _⟩
theorem QJ {w:World} {o:Obj} {t:TypeId} {cs:List Value} :ja ((w.alloc o).alloc (.cells cs.toArray t)) (w.heap.size+1) t cs:=by
 have h:=ja.make (w.alloc o) t cs;simp only[World.size_alloc] at h;exact h
theorem OC (x:Int):sg (!decide (x<0)) x.natAbs = -x:=by
 by_cases h:x<0
 ·rw[QaK h];unfold sg;rw[if_neg (by decide)];omega
 ·rw[Qat h];unfold sg;rw[if_pos (by decide)];omega
theorem Mu (v:Value) (x:Int) (w:World) (h:Ri w v x):Calls Tryz.prog 167 #[v] w (kZ (-x) w):=by
 obtain⟨dv,ws,rfl,hv,hok,hn,hs⟩:=h;obtain⟨A,c,rfl,hc1,hc2⟩:=hs.form;have hX:=OC x;rw[←hv] at hX;generalize decide (x<0)=bx at *;have HB0:Hid (Below w.heap.size w ((w.alloc (.cells #[.bool bx,.slice A (jm ws).length c] 178)).alloc (.cells #[.bool false,.slice none 0 0] 178))):=hid (((Below.refl _ _).alloc (Nat.le_refl _) _).alloc (by simp) _);have HOw:Hid (ja ((w.alloc (.cells #[.bool bx,.slice A (jm ws).length c] 178)).alloc (.cells #[.bool false,.slice none 0 0] 178)) (w.heap.size+1) 178 [.bool false,.slice none 0 0]):=hid QJ;have SG:=hid (xR (!bx) (.slice A (jm ws).length c) ws _ hok (hs.below HB0.out));rw[hX] at SG;clear hX hs hok hn hv;generalize (jm ws).length=n at *;go_enter Tryz.func167,Tryz.ntmps167
 go_wp2_with fail
 refine SG.out.mono ?_;rintro e w2 ⟨rv,rfl,hri,hB2⟩;obtain⟨RA,rn,rc,rfl,hr1,hr2⟩:=hri.open_;generalize hbz:decide (-x<0)=bz at *;have HO2:=hid (HOw.out.below hB2 HOw.out.lt);obtain⟨c0,c1,f0,f1⟩:=HO2.out.two;have HRF:=hid (hri.put2 (a':= .bool bz) (b':= .slice RA rn rc) HO2.out (ju _) (jr _ _ _) (ju _));have HBF:Hid (Below w.heap.size w ((w2.setCell ⟨w.heap.size+1,0,none⟩ (.bool bz)).setCell ⟨w.heap.size+1,1,none⟩ (.slice RA rn rc))):=hid (((HB0.out.trans (hB2.mono HB0.out.size)).setCell (p:=⟨w.heap.size+1,0,none⟩) (Nat.le_succ _) _).setCell (p:=⟨w.heap.size+1,1,none⟩) (Nat.le_succ _) _);clear hri hB2 hbz
 go_wp2
 obtain⟨z0,z1,_,_⟩:=(HO2.out.set2 (a':= .bool bz) (b':= .slice RA rn rc)).two;exact bodyPost_ret (v:= .agg #[.bool bz,.slice RA rn rc]) (by simp[results,Tryz.results167,go_sem,z0,z1]) rfl ⟨_,rfl,HRF.out,HBF.out⟩
def yZ (l:List UInt8) (m:Nat) (ws:List Nat):Prop:=jI ws∧jb ws+B9^ws.length*jf (l.take m)=jf l∧9*ws.length+m=l.length
theorem yZ.start (l:List UInt8):yZ l l.length []:=⟨KA,by simp[jb],by simp⟩
theorem VM {l:List UInt8} (h:j7 l) (hl:l.length≤9):jf l<B9:=by
 have h1:=xf h;have h2:10^l.length≤10^9:=Qai (by decide) hl;unfold B9;omega
theorem yZ.step {l:List UInt8} {m:Nat} {ws:List Nat} (hd:j7 l) (h:yZ l (m+9) ws):yZ l m (ws++[jf ((l.take (m+9)).drop m)]):=by
 obtain⟨h1,h2,h3⟩:=h
 have hl:((l.take (m+9)).drop m).length=9:=by rw[Qa3,Qak];omega
 have hs:l.take (m+9)=l.take m++(l.take (m+9)).drop m:=by
  conv=>lhs;rw[←Qb2 m (l.take (m+9))]
  rw[List.take_take,QaJ (by omega)]
 have hv:jf (l.take (m+9))=jf (l.take m)*B9+jf ((l.take (m+9)).drop m):=by
  conv=>lhs;rw[hs]
  rw[JZ,hl]
 refine⟨Kz.2 ⟨h1,JX.2 (VM (YT (JW hd _) _) (by omega))⟩,?_,by simp;omega⟩;rw[hv] at h2;rw[Jw,Qaf,QaZ,QaD,←h2,Qau,Qal,Qam B9 (jf _)];omega
theorem yZ.last {l:List UInt8} {m:Nat} {ws:List Nat} (hd:j7 l) (h:yZ l m ws) (hm:m≤9):jI (ws++[jf (l.take m)])∧jb (ws++[jf (l.take m)])=jf l:=by
 obtain⟨h1,h2,h3⟩:=h;exact⟨Kz.2 ⟨h1,JX.2 (VM (JW hd _) (by rw[Qak];omega))⟩,by rw[Jw];exact h2⟩
def GP (l:List UInt8) (base m:Nat) (w:World) (t:ByteArray) (v:Value) (wr:World):Prop:=∃ws:List Nat,t.data.toList=l.take m∧yZ l m ws∧wr.ownsRow (base+1) 3 1 v ws.length (jm ws)∧ja wr base 178 [.bool false,.slice none 0 0]∧Below w.heap.size w wr
theorem yZ.len {l:List UInt8} {m:Nat} {ws:List Nat} (h:yZ l m ws) (hl:l.length≤9000000):ws.length≤1000000:=by have:=h.2.2;omega
theorem GS (neg:Bool) (s t0:ByteArray) (l:List UInt8) (w:World) (h0:0<s.size) (hc:(((s[0]'h0).toNat:Int)==45)=neg) (ht:(if neg=true then s.extract 1 s.size else s)=t0) (hs:t0.data.toList=l) (hz:(s.size:Int)=t0.size+(if neg=true then 1 else 0)) (hd:j7 l) (hl0:0<l.length) (hl:l.length≤9000000):
  Calls Tryz.prog 154 #[.string s] w (kZ (sg neg (jf l)) w):=by
 obtain⟨i0,hi,hz0,hz1,hz2⟩:=info_parts zd
 obtain⟨N,r,hN,hr1,hr9⟩:∃N r,l.length=9*N+r∧1≤r∧r≤9:=⟨(l.length-1)/9,l.length-9*((l.length-1)/9),by omega,by omega,by omega⟩
 have hsz:t0.size=9*N+r:=by rw[←hN,←hs];simp
 have HD:=hid hd;have HLL:=hid hl;have HTE:=hid ht
 have hszI:(s.size:Int)≤9000001:=by rw[hz];split <;> omega
 have h0I:(0:Int)<(s.size:Int):=by omega
 have hneg1:neg=true→(1:Int)≤(s.size:Int):=fun _=>by omega
 have HST:Hid (GP l w.heap.size (9*N+r) w t0 (.slice none 0 0) (w.alloc (.cells #[.bool false,.slice none 0 0] 178))):=hid ⟨[],by rw[hs,←hN,Qad (Nat.le_refl _)],by rw[←hN];exact yZ.start l,World.ownsRow_nil _ _ _ _,ja.make _ _ _,(Below.refl _ _).alloc (Nat.le_refl _) _⟩;have HSZ:Hid (t0.size=9*N+r):=hid hsz;have HNN:Hid (l.length=9*N+r):=hid hN;clear hsz hN hd hl ht hs hz hl0;cases neg
 case' true=>rw[if_pos rfl] at HTE
 case' false=>rw[if_neg (by decide)] at HTE;have HTE2:=HTE.out;clear HTE;subst HTE2
 all_goals (
  go_enter Tryz.func154,Tryz.ntmps154
  go_wp2_with fail
  try rw[HTE.out]
  go_loopg [0,4] N (fun g u v wr=>∃t:ByteArray,u = .string t∧Hid (t.size=9*g+r)∧g≤N∧Hid (GP l w.heap.size (9*g+r) w t v wr))
  case atStart=>exact⟨_,rfl,HSZ,Nat.le_refl _,HST⟩
  case round=>
   obtain⟨t,rfl,htz,hgN,hR⟩:=hrel;obtain⟨ws,hT,hI,hO,hOw,hB⟩:=hR.out;have hwl:=hI.len HLL.out;have hsB:=hB.size;have HI:=hid hI;have HT:=hid hT;have HO:=hid hO;have HOw:=hid hOw;have HB:=hid hB;clear hR hI hT hO hOw hB
   cases gk with
   | zero=>
    have hin:¬(9:Int)<(t.size:Int):=by have:=htz.out;omega
    have htI:t.size≤18:=by have:=htz.out;omega
    have V:Hid (Calls Tryz.prog 170 #[.string t] wr (xX (jf (l.take (9*0+r))) wr)):=hid (by have h:=Q5 t wr htI (by rw[HT.out];exact JW HD.out _);rw[HT.out] at h;exact h);have HLA:=hid (HI.out.last HD.out (by omega));generalize jf (l.take (9*0+r))=dv at *;clear htI
    go_wp2_with fail
    refine V.out.mono ?_;rintro e w1 ⟨rfl,rfl⟩
    go_wp2_with (at_builtin;(refine wpList_append_own _ rfl _ _ 41 rfl (w.heap.size+1) 3 i0 (.int .i64 0) 1 8 Tryz.underlying41 hi hz0 hz1 hz2 rfl (by decide) _ _ _ rfl (HO.out.alloc _) ⟨wr.heap.size,0,none⟩ 1 1 [.int .i64 (dv:Int)] rfl rfl (cell_one_new _ _ _) (fun x hx=>by simp at hx;subst hx;rfl) (by unfold maxLen;omega) (by omega) (by simp;omega) ?_;intro v' w1 hown' hgrow _))
    rw[←x7] at hown';have HSL:=hid (x9 hown' (by omega));have HOw':Hid (ja w1 w.heap.size 178 [.bool false,.slice none 0 0]):=hid ((HOw.out.alloc _).grown hgrow (fun e=>by have:=(HO.out.lt _ e).1;omega));have HB':=hid (Below.grown (HB.out.alloc hsB (.cells #[.int .i64 (dv:Int)] 3)) hgrow (by simp;omega) (fun j hj=>by have:=(HO.out.lt _ hj).1;omega));clear hown' hgrow
    go_wp2_with fail
    refine(xR _ v' (ws++[dv]) w1 HLA.out.1 HSL.out).mono ?_;rintro e w2 ⟨rv,rfl,hri,hB2⟩;rw[HLA.out.2] at hri;obtain⟨RA,rn,rc,rfl,hr1,hr2⟩:=hri.open_;generalize hbz:decide (sg _ (jf l)<0)=bz at *;have HO2:=hid (HOw'.out.below hB2 HOw'.out.lt);obtain⟨c0,c1,f0,f1⟩:=HO2.out.two;have HRF:=hid (hri.put2 (a':= .bool bz) (b':= .slice RA rn rc) HO2.out (ju _) (jr _ _ _) (ju _));have HBF:Hid (Below w.heap.size w ((w2.setCell ⟨w.heap.size,0,none⟩ (.bool bz)).setCell ⟨w.heap.size,1,none⟩ (.slice RA rn rc))):=hid (((HB'.out.trans (hB2.mono HB'.out.size)).setCell (p:=⟨w.heap.size,0,none⟩) (Nat.le_refl _) _).setCell (p:=⟨w.heap.size,1,none⟩) (Nat.le_refl _) _);clear hri hB2 hbz
    go_wp2
    obtain⟨z0,z1,_,_⟩:=(HO2.out.set2 (a':= .bool bz) (b':= .slice RA rn rc)).two;exact bodyPost_ret (v:= .agg #[.bool bz,.slice RA rn rc]) (by simp[results,Tryz.results154,go_sem,z0,z1]) rfl ⟨_,rfl,HRF.out,HBF.out⟩
   | succ g=>
    have hin:(9:Int)<(t.size:Int):=by have:=htz.out;omega
    have h9m:9*(g+1)+r=9*g+r+9:=by omega
    rw[h9m] at HI HT htz;have E1:Hid ((t.extract (t.size-9) t.size).data.toList=(l.take (9*g+r+9)).drop (9*g+r)):=hid (by rw[xK HT.out,htz.out,List.take_take,QaJ (Nat.le_refl _)];congr 1);have E2:Hid ((t.extract 0 (t.size-9)).data.toList=l.take (9*g+r)):=hid (by rw[xK HT.out,htz.out,List.take_take,Qa0];congr 1;omega);have E3:Hid ((t.extract 0 (t.size-9)).size=9*g+r):=hid (by rw[kG E2.out,Qak];have:=HI.out.2.2;omega)
    have V:Hid (Calls Tryz.prog 170 #[.string (t.extract (t.size-9) t.size)] wr (xX (jf ((l.take (9*g+r+9)).drop (9*g+r))) wr)):=hid (by
     have h:=Q5 (t.extract (t.size-9) t.size) wr (by rw[kG E1.out,Qa3,Qak];omega) (by rw[E1.out];exact YT (JW HD.out _) _)
     rw[E1.out] at h;exact h)
    have HS:=hid (HI.out.step HD.out);generalize jf ((l.take (9*g+r+9)).drop (9*g+r))=dv at *
    have htu:(t.size:Int)≤9000009:=by have:=htz.out;have:=HNN.out;have:=HLL.out;omega
    clear h9m
    go_wp2_with fail
    refine V.out.mono ?_;rintro e w1 ⟨rfl,rfl⟩
    go_wp2_with (at_builtin;(refine wpList_append_own _ rfl _ _ 41 rfl (w.heap.size+1) 3 i0 (.int .i64 0) 1 8 Tryz.underlying41 hi hz0 hz1 hz2 rfl (by decide) _ _ _ rfl (HO.out.alloc _) ⟨wr.heap.size,0,none⟩ 1 1 [.int .i64 (dv:Int)] rfl rfl (cell_one_new _ _ _) (fun x hx=>by simp at hx;subst hx;rfl) (by unfold maxLen;omega) (by omega) (by simp;omega) ?_;intro v' w1 hown' hgrow _))
    have HO':Hid (w1.ownsRow (w.heap.size+1) 3 1 v' (ws++[dv]).length (jm (ws++[dv]))):=hid (by rw[x7,Qaf,QaZ];exact hown');have HOw':Hid (ja w1 w.heap.size 178 [.bool false,.slice none 0 0]):=hid ((HOw.out.alloc _).grown hgrow (fun e=>by have:=(HO.out.lt _ e).1;omega));have HB':=hid (Below.grown (HB.out.alloc hsB (.cells #[.int .i64 (dv:Int)] 3)) hgrow (by simp;omega) (fun j hj=>by have:=(HO.out.lt _ hj).1;omega));clear hown' hgrow
    go_wp2
    go_roundg g
    case rel=>exact⟨_,rfl,E3,by omega,hid ⟨_,E2.out,HS.out,HO'.out,HOw'.out,HB'.out⟩⟩
    case measure=>omega)
theorem Ud (neg:Bool) (s:ByteArray) (l:List UInt8) (w:World) (hs:s.data.toList=(if neg=true then [45] else [])++l) (hd:j7 l) (hl0:0<l.length) (hl:l.length≤9000000):
  Calls Tryz.prog 154 #[.string s] w (kZ (sg neg (jf l)) w):=by
 have hz:=kG hs;rw[Qaf] at hz
 have h0:0<s.size:=by omega
 cases neg with
 | true=>
  have hs':s.data.toList=45::l:=hs
  have e:(s.extract 1 s.size).data.toList=l:=by rw[xK hs',kG hs',Qad (Nat.le_refl _)];rfl
  refine GS true s (s.extract 1 s.size) l w h0 (by rw[Qt hs' h0];rfl) (if_pos rfl) e ?_ hd hl0 hl;rw[kG e,if_pos rfl,kG hs'];simp
 | false=>
  have hs':s.data.toList=l:=by rw[hs];rfl
  refine GS false s s l w h0 ?_ (if_neg (by decide)) hs' (by simp) hd hl0 hl;have hge:=xI s 0 h0;exact ZZ (hd _ (by rw[←hs'];exact Qab hge))
structure Kn (B P top u2 v1 v2 U V:Nat):Prop where
 lo:(top*B+u2)*P≤U
 hi:U<(top*B+u2+1)*P
 vlo:(v1*B+v2)*P≤V
 vhi:V<(v1*B+v2+1)*P
 v2lt:v2<B
 u2lt:u2<B
 lt:U<B*V
 norm:B≤2*v1
theorem Kn.pos {B P top u2 v1 v2 U V:Nat} (h:Kn B P top u2 v1 v2 U V):0<P:=by
 rcases QaA P with h0 | h0
 ·have:=h.hi;rw[h0] at this;omega
 ·exact h0
theorem Kn.top_le {B P top u2 v1 v2 U V:Nat} (h:Kn B P top u2 v1 v2 U V):top≤v1*B+v2:=by
 have h1:(top*B+u2)*P<(B*(v1*B+v2+1))*P:=by
  have h2:B*V<B*((v1*B+v2+1)*P):=Nat.mul_lt_mul_of_pos_left h.vhi (by have:=h.v2lt;omega);have:=h.lo;have:=h.lt;rw[Qal];omega
 have h2:=Nat.lt_of_mul_lt_mul_right h1
 have h3:B*top<B*(v1*B+v2+1):=by rw[Qam B top];omega
 have:=Nat.lt_of_mul_lt_mul_left h3;omega
theorem Kn.third {B P top u2 v1 v2 U V t r:Nat} (h:Kn B P top u2 v1 v2 U V) (e:top=t*v1+r) (ht:B<t):r+v1<B:=by
 have h1:=h.top_le;have h2:=h.v2lt;have h3:(B+1)*v1≤t*v1:=Qas _ ht;rw[Qaz,Qam B v1] at h3;omega
theorem Kn.over {B P top u2 v1 v2 U V t r:Nat} (h:Kn B P top u2 v1 v2 U V) (e:top=t*v1+r) (ht:r*B+u2<t*v2):U<t*V:=by
 have h1:top*B+u2+1≤t*(v1*B+v2):=by
  rw[e,Qaz,Qau,←Qal];omega
 have h2:(top*B+u2+1)*P≤t*(v1*B+v2)*P:=Qas _ h1;have h3:t*((v1*B+v2)*P)≤t*V:=Qan _ h.vlo;rw[←Qal] at h3;have:=h.hi;omega
theorem Kn.good {B P top u2 v1 v2 U V t r:Nat} (h:Kn B P top u2 v1 v2 U V) (e:top=t*v1+r) (ht:t*v2≤r*B+u2) (hb:t<B):t*V<U+V:=by
 have h1:t*(v1*B+v2)≤top*B+u2:=by
  rw[e,Qaz,Qau,←Qal];omega
 have h2:t*(v1*B+v2)*P≤(top*B+u2)*P:=Qas _ h1;have h3:t*V≤t*((v1*B+v2+1)*P):=Qan _ (Qbo h.vhi)
 have h4:t*((v1*B+v2+1)*P)=t*(v1*B+v2)*P+t*P:=by
  rw[Qaz,Qau,Qbd,←Qal]
 have h5:t*P<B*P:=Qba hb h.pos;have h6:1*(B*P)≤v1*(B*P):=Qas _ (by have:=h.norm;omega);have h7:=h.vlo;rw[Qaz,Qal] at h7;have:=h.lo;omega
theorem Kn.far {B P top u2 v1 v2 U V t r:Nat} (h:Kn B P top u2 v1 v2 U V) (hr:B≤r) (hb:t<B):t*v2≤r*B+u2:=by
 have h1:t*v2≤B*B:=Qbh (Qbo hb) (Qbo h.v2lt);have h2:B*B≤r*B:=Qas _ hr;omega
def yh (top v1 U V t r:Nat):Prop:=top=t*v1+r∧U<(t+1)*V
theorem Kn.start {B P top u2 v1 v2 U V:Nat} (h:Kn B P top u2 v1 v2 U V):yh top v1 U V (top/v1) (top%v1):=by
 have hv:0<v1:=by have:=h.norm;have:=h.v2lt;omega
 have h0:=QaP top v1;have hm:=QaI top hv;refine⟨by rw[Qam];exact h0.symm,?_⟩;generalize top/v1=t at *
 have h1:top+1≤(t+1)*v1:=by rw[Qaz,Qam t v1];omega
 have h2:(top+1)*B≤(t+1)*v1*B:=Qas _ h1
 have h3:top*B+u2+1≤(t+1)*v1*B:=by have:=h.u2lt;rw[Qaz] at h2;omega
 have h4:(top*B+u2+1)*P≤(t+1)*v1*B*P:=Qas _ h3;have h5:(t+1)*((v1*B+v2)*P)≤(t+1)*V:=Qan _ h.vlo
 have h6:(t+1)*v1*B*P≤(t+1)*((v1*B+v2)*P):=by
  rw[Qal,Qal,←Qal v1 B P];exact Qan _ (Qas _ (Qcn _ _))
 have:=h.hi;omega
theorem Kn.down {B P top u2 v1 v2 U V t r:Nat} (h:Kn B P top u2 v1 v2 U V) (hI:yh top v1 U V t r) (ht:B≤t∨r*B+u2<t*v2):∃t',t=t'+1∧yh top v1 U V t' (r+v1):=by
 have h1:U<t*V:=by
  rcases ht with ht | ht
  ·exact Qac h.lt (Qas _ ht)
  ·exact h.over hI.1 ht
 cases t with
 | zero=>rw[Nat.zero_mul] at h1;omega
 | succ t'=>
  refine⟨t',rfl,?_,h1⟩;have:=hI.1;rw[Qaz] at this;omega
def yU (B U V t:Nat):Prop:=t<B∧t*V<U+V∧U<(t+1)*V
theorem Kn.exit {B P top u2 v1 v2 U V t r:Nat} (h:Kn B P top u2 v1 v2 U V) (hI:yh top v1 U V t r) (hb:t<B) (ht:t*v2≤r*B+u2):yU B U V t:=
 ⟨hb,h.good hI.1 ht hb,hI.2⟩
theorem Kn.exit_far {B P top u2 v1 v2 U V t r:Nat} (h:Kn B P top u2 v1 v2 U V) (hI:yh top v1 U V (t+1) r) (hI2:yh top v1 U V t (r+v1)) (hr:B≤r+v1):yU B U V t:=by
 have hb:t<B:=by
  rcases Qae t B with h1 | h1
  ·exact h1
  ·have:=h.third hI.1 (by omega);omega
 exact h.exit hI2 hb (h.far hr hb)
theorem Bh {us vs:List Nat} {j m:Nat} (hu:jI us) (hv:jI vs) (hl:vs.length=m+2) (hul:j+m+2<us.length) (hz:jb (us.drop (j+m+3))=0)
  (hlt:jb (us.drop j)<B9*jb vs) (hn:B9≤2*vs[m+1]?.getD 0):
  Kn B9 (B9^m) (us[j+m+2]?.getD 0*B9+us[j+m+1]?.getD 0) (us[j+m]?.getD 0) (vs[m+1]?.getD 0) (vs[m]?.getD 0) (jb (us.drop j)) (jb vs):=by
 have e1:jb (us.drop j)=jb ((us.drop j).take m)+B9^m*((us[j+m+2]?.getD 0*B9+us[j+m+1]?.getD 0)*B9+us[j+m]?.getD 0):=by
  rw[ym (us.drop j) m (by rw[Qa3];omega),QbM,yG us (j+m) (by omega),yG us (j+m+1) (by omega),yG us (j+m+1+1) (by omega),show j+m+1+1+1=j+m+3 from rfl,hz]
  congr 2
  show us[j+m]?.getD 0+B9*(us[j+m+1]?.getD 0+B9*(us[j+m+2]?.getD 0+B9*0))=_
  generalize us[j+m]?.getD 0=a;generalize us[j+m+1]?.getD 0=b;generalize us[j+m+2]?.getD 0=c;unfold B9;omega
 have e2:jb vs=jb (vs.take m)+B9^m*(vs[m+1]?.getD 0*B9+vs[m]?.getD 0):=by
  rw[ym vs m (by omega),yG vs m (by omega),yG vs (m+1) (by omega),Qbx (by omega)]
  congr 2
  simp only[jb];generalize vs[m]?.getD 0=a;generalize vs[m+1]?.getD 0=b;unfold B9;omega
 have b1:=qN (Jv (ws:=us.drop j) (fun x hx=>hu x (Qb5 hx)) m);have b2:=qN (Jv hv m);have p1:B9^((us.drop j).take m).length≤B9^m:=Qai (by decide) (by rw[Qak];omega);have p2:B9^(vs.take m).length≤B9^m:=Qai (by decide) (by rw[Qak];omega);have q1:=kR hu (j+m);have q2:=kR hv m
 obtain⟨X,hX⟩:∃X,(us[j+m+2]?.getD 0*B9+us[j+m+1]?.getD 0)*B9+us[j+m]?.getD 0=X:=⟨_,rfl⟩
 obtain⟨Y,hY⟩:∃Y,vs[m+1]?.getD 0*B9+vs[m]?.getD 0=Y:=⟨_,rfl⟩
 rw[hX] at e1;rw[hY] at e2;refine⟨?_,?_,?_,?_,q2,q1,hlt,hn⟩
 ·rw[hX,e1,Qam];omega
 ·rw[hX,e1,Qam (X+1),Qau,Qbr];omega
 ·rw[hY,e2,Qam];omega
 ·rw[hY,e2,Qam (Y+1),Qau,Qbr];omega
def xH (vs L0 L:List Nat) (t j k br:Nat):Prop:=L.length=L0.length∧jI L∧L.take j=L0.take j∧L.drop (j+vs.length)=L0.drop (j+vs.length)∧br<B9 ∧
 jb L+B9^j*(jb (vs.take k)*t)=jb L0+B9^(j+k)*br
theorem xH.start {vs L0:List Nat} (t j:Nat) (h:jI L0):xH vs L0 L0 t j 0 0:=⟨rfl,h,rfl,rfl,by decide,by simp[jb]⟩
theorem xH.step {vs L0 L:List Nat} {t j k br d br':Nat} (h:xH vs L0 L t j k br) (hk:k<vs.length) (hlen:j+vs.length≤L0.length) (hd:d<B9) (hb:br'<B9)
  (he:d+vs[k]?.getD 0*t+br=L[j+k]?.getD 0+B9*br'):xH vs L0 (L.set (j+k) d) t j (k+1) br':=by
 obtain⟨h1,h2,h3,h4,h5,h6⟩:=h;refine⟨by simp[h1],Ju h2 _ _ hd,by rw[Kj _ _ _ _ (by omega)];exact h3,by rw[Qa9 (by omega)];exact h4,hb,?_⟩;have hs:=Xq L (j+k) d (by omega);rw[Xt vs,show j+(k+1)=(j+k)+1 from by omega,QaD]
 have e:B9^(j+k)*(d+vs[k]?.getD 0*t+br)=B9^(j+k)*(L[j+k]?.getD 0+B9*br'):=by rw[he]
 have e2:B9^j*(B9^k*vs[k]?.getD 0*t)=B9^(j+k)*(vs[k]?.getD 0*t):=by rw[Qbj,Qal,Qal]
 simp only[Qau,Qaz,e2] at e hs h6 ⊢;rw[Qal (B9^(j+k)) B9 br'];omega
theorem OY (z v t br:Nat) (hz:z<B9) (hv:v<B9) (ht:t<B9) (hb:br<B9):v*t+br<1000000000000000000 ∧
  (((v*t+br)%B9≤z→(v*t+br)/B9<B9∧z-(v*t+br)%B9<B9∧(z-(v*t+br)%B9)+v*t+br=z+B9*((v*t+br)/B9)) ∧
  (z<(v*t+br)%B9→(v*t+br)/B9+1<B9∧z+B9-(v*t+br)%B9<B9∧(z+B9-(v*t+br)%B9)+v*t+br=z+B9*((v*t+br)/B9+1))):=by
 have h1:v*t≤(B9-1)*(B9-1):=Qbh (by omega) (by omega);generalize v*t=p at *;unfold B9 at *;omega
end Go.Proofs.YteagkgagdelklaaGreatDoor
namespace Go.Proofs.YteagkgagdelklaaGreatDoor
def BH:Nat:=4294967296
theorem zZ:WB=BH*BH:=by unfold WB BH;rfl
theorem XU {top u2 v1 v2:Nat} (h1:v2<BH) (h2:u2<BH) (h3:top*BH+u2<BH*(v1*BH+v2)) (h4:BH≤2*v1):Kn BH 1 top u2 v1 v2 (top*BH+u2) (v1*BH+v2):=
 ⟨by omega,by omega,by omega,by omega,h1,h2,h3,h4⟩
theorem yJ {top u2 v1 v2 t r:Nat} (hI:yh top v1 (top*BH+u2) (v1*BH+v2) t r) (ht:t*v2≤r*BH+u2):t*(v1*BH+v2)≤top*BH+u2∧top*BH+u2<(t+1)*(v1*BH+v2):=by
 refine⟨?_,hI.2⟩;rw[hI.1,Qau,Qaz,←Qal];omega
theorem N6 {hi lo y s V a b u1 u0 q1 q0 un21 q r:Nat} (hN:(hi*WB+lo)*s=(a*BH+u1)*BH+u0) (hV:V=y*s) (hs:0<s)
  (e1:a*BH+u1=q1*V+un21) (e2:un21*BH+u0=q0*V+b) (hb:b<V) (h:hi*WB+lo=q*y+r) (hr:r<y):q1*BH+q0=q∧b/s=r:=by
 have h1:(hi*WB+lo)*s=(q1*BH+q0)*V+b:=by
  rw[hN,e1,Qaz,Qb9,e2,Qaz]
  have:q1*V*BH=q1*BH*V:=by rw[Qal,Qam V,←Qal]
  omega
 rw[h,hV,Qaz,Qal] at h1;rw[hV] at hb
 have hy:0<y*s:=by omega
 have hrs:r*s<y*s:=Qba hr hs
 have d1:(q*(y*s)+r*s)/(y*s)=q:=by
  rw[Qam q,Nat.mul_add_div hy,Qbt hrs];omega
 have d2:((q1*BH+q0)*(y*s)+b)/(y*s)=q1*BH+q0:=by
  rw[Qam (q1*BH+q0),Nat.mul_add_div hy,Qbt hb];omega
 rw[h1,d2] at d1;refine⟨d1,?_⟩;rw[d1] at h1
 have:b=r*s:=by omega
 rw[this,Nat.mul_div_cancel _ hs]
end Go.Proofs.YteagkgagdelklaaGreatDoor
namespace Go.Proofs.YteagkgagdelklaaGreatDoor
open Go.RowKit Go.Lib
def Dv (us vs L Q:List Nat) (g:Nat):Prop:=L.length=us.length∧jI L∧Q.length+vs.length=us.length∧jI Q∧jb (L.drop g)<jb vs∧jb us=jb L+jb vs*(B9^g*jb (Q.drop g))
theorem Tv (n:Nat):jb (List.replicate n 0)=0:=by
 induction n with
 | zero=>rfl
 | succ n ih=>simp[List.replicate_succ,jb,ih]
theorem Dv.start {us vs:List Nat} {M:Nat} (ou:jI us) (hl:M+vs.length=us.length) (h:jb (us.drop M)<jb vs):Dv us vs us (List.replicate M 0) M:=by
 refine⟨rfl,ou,by simp[hl],Xo _,h,?_⟩;simp[jb]
theorem Dv.above {us vs L Q:List Nat} {j:Nat} (h:Dv us vs L Q (j+1)) (ov:jI vs):jb (L.drop (j+vs.length+1))=0:=by
 obtain⟨h1,h2,h3,h4,h5,h6⟩:=h;have hv:=qN ov;rcases Qae (L.drop (j+1)).length vs.length with hl | hl
 ·rw[Qbx (by rw[Qa3] at hl;omega)];rfl
 ·have h7:=ym (L.drop (j+1)) vs.length hl
  rw[QbM,show j+1+vs.length=j+vs.length+1 from by omega] at h7;generalize jb (L.drop (j+vs.length+1))=X at *;rcases QaA X with h0 | h0
  ·exact h0
  ·have:B9^vs.length*1≤B9^vs.length*X:=Qan _ h0
   omega
theorem Dv.lt {us vs L Q:List Nat} {j:Nat} (h:Dv us vs L Q (j+1)) (hj:j<L.length):jb (L.drop j)<B9*jb vs:=by
 rw[yG L j hj];have h1:=kR h.2.1 j;have h2:=h.2.2.2.2.1;have h3:B9*(jb (L.drop (j+1))+1)≤B9*jb vs:=Qan _ h2;rw[Qau,Qbr] at h3;omega
theorem Dv.step {us vs L Q N:List Nat} {j t:Nat} (h:Dv us vs L Q (j+1)) (hj:j<Q.length) (hN:N.length=L.length) (oN:jI N) (hT:N.take j=L.take j)
  (e:jb (L.drop j)=jb vs*t+jb (N.drop j)) (hr:jb (N.drop j)<jb vs) (ht:t<B9):Dv us vs N (Q.set j t) j:=by
 obtain⟨h1,h2,h3,h4,h5,h6⟩:=h;refine⟨by omega,oN,by simpa using h3,Ju h4 _ _ ht,hr,?_⟩;rw[h6,J0 (Q.set j t) j (by simpa using hj),J4 _ _ _ hj,Qa9 (by omega),ym L j (by omega),ym N j (by omega),hT,e];simp only[jb];rw[QaD];simp only[Qau]
 have q1:jb vs*(B9^j*B9*jb (List.drop (j+1) Q))=jb vs*(B9^j*(B9*jb (List.drop (j+1) Q))):=by rw[Qal (B9^j)]
 have q2:B9^j*(jb vs*t)=jb vs*(B9^j*t):=by rw[←Qal,Qam (B9^j),Qal]
 omega
theorem Dv.last {us vs L Q:List Nat} (h:Dv us vs L Q 0):jb Q=jb us/jb vs∧jb L=jb us%jb vs:=by
 obtain⟨h1,h2,h3,h4,h5,h6⟩:=h;simp only[Qa0,Qb0,Qbd] at h5 h6
 have hp:0<jb vs:=by omega
 rw[h6];refine⟨?_,?_⟩
 ·rw[Nat.add_mul_div_left _ _ hp,Qbt h5,Qbi]
 ·rw[Nat.add_mul_mod_self_left,Qbm h5]
theorem YE {L:List Nat} {j n:Nat} (hj:j+n<L.length) (h0:jb (L.drop (j+n+1))=0):jb (L.drop j)=jb ((L.drop j).take n)+B9^n*L[j+n]?.getD 0:=by
 rw[ym (L.drop j) n (by rw[Qa3];omega),QbM,yG L (j+n) hj,h0];simp
theorem UT {L:List Nat} (h:jI L) (j n:Nat):jb ((L.drop j).take n)<B9^n:=by
 have h1:=qN (Jv (ws:=L.drop j) (fun x hx=>h x (Qb5 hx)) n);have h2:B9^((L.drop j).take n).length≤B9^n:=Qai (by decide) (by rw[Qak];omega);omega
theorem EX {L:List Nat} {j n x:Nat} (hj:j+n<L.length) (h0:jb (L.drop (j+n+1))=0):jb ((L.set (j+n) x).drop j)=jb ((L.drop j).take n)+B9^n*x:=by
 rw[YE (L:=L.set (j+n) x) (by simpa using hj) (by rw[Qa9 (by omega)];exact h0),J4 L _ _ hj]
 congr 2
 rw[List.drop_set,if_neg (by omega),show j+n-j=n from by omega,Qca (Nat.le_refl _)]
theorem Ea {L L':List Nat} {j X Y:Nat} (hl:L'.length=L.length) (ht:L'.take j=L.take j) (hj:j≤L.length) (h:jb L'+B9^j*X=jb L+B9^j*Y):jb (L'.drop j)+X=jb (L.drop j)+Y:=by
 rw[ym L' j (by omega),ym L j hj,ht] at h
 have h1:B9^j*(jb (L'.drop j)+X)=B9^j*(jb (L.drop j)+Y):=by rw[Qau,Qau];omega
 exact Nat.eq_of_mul_eq_mul_left (Nat.pow_pos (by decide)) h1
theorem VX {L L':List Nat} {a:Nat} (h:L'.drop a=L.drop a):L'[a]?.getD 0=L[a]?.getD 0∧jb (L'.drop (a+1))=jb (L.drop (a+1)):=by
 have e1:(L'.drop a)[0]?.getD 0=(L.drop a)[0]?.getD 0:=by rw[h]
 have e2:(L'.drop a).drop 1=(L.drop a).drop 1:=by rw[h]
 simp only[QbM,List.getElem?_drop,Qbf] at e1 e2;exact⟨e1,by rw[e2]⟩
theorem xH.main {vs L L':List Nat} {t j br:Nat} (h:xH vs L L' t j vs.length br) (hj:j+vs.length<L.length) (h0:jb (L.drop (j+vs.length+1))=0):
  jb ((L'.drop j).take vs.length)+B9^vs.length*L[j+vs.length]?.getD 0+jb vs*t=jb (L.drop j)+B9^vs.length*br∧jb (L'.drop (j+vs.length+1))=0∧L'[j+vs.length]?.getD 0=L[j+vs.length]?.getD 0:=by
 obtain⟨h1,h2,h3,h4,h5,h6⟩:=h;obtain⟨d1,d2⟩:=VX h4;rw[Qad (Nat.le_refl _),Qbj,Qal] at h6;have h7:=Ea h1 h3 (by omega) h6;rw[YE (L:=L') (j:=j) (n:=vs.length) (by omega) (by rw[d2];exact h0),d1] at h7;exact⟨h7,by rw[d2];exact h0,d1⟩
theorem xH.fit {vs L L':List Nat} {t j br:Nat} (h:xH vs L L' t j vs.length br) (ov:jI vs) (hj:j+vs.length<L.length) (h0:jb (L.drop (j+vs.length+1))=0) (hD:yU B9 (jb (L.drop j)) (jb vs) t) (hge:br≤L[j+vs.length]?.getD 0):
  L[j+vs.length]?.getD 0=br∧jb (L.drop j)=jb vs*t+jb ((L'.set (j+vs.length) 0).drop j)∧jb ((L'.set (j+vs.length) 0).drop j)<jb vs:=by
 obtain⟨e,e0,e1⟩:=h.main hj h0;have hl:L'.length=L.length:=h.1;rw[EX (by omega) e0,QbF,Qbf];obtain⟨d1,d2,d3⟩:=hD;rw[Qaz,Qbd,Qam t] at d3;have hv:=qN ov;generalize L[j+vs.length]?.getD 0=z at *;generalize jb ((L'.drop j).take vs.length)=W at *
 have hz:z=br:=by
  rcases Qae br z with h1 | h1
  ·have:B9^vs.length*(br+1)≤B9^vs.length*z:=Qan _ h1
   rw[Qau] at this;omega
  ·omega
 subst hz;omega
theorem xH.over {vs L L':List Nat} {t j br:Nat} (h:xH vs L L' t j vs.length br) (ov:jI vs) (hj:j+vs.length<L.length) (h0:jb (L.drop (j+vs.length+1))=0) (hD:yU B9 (jb (L.drop j)) (jb vs) t) (hlt:L[j+vs.length]?.getD 0<br):
  L[j+vs.length]?.getD 0+1=br∧1≤t:=by
 obtain⟨e,e0,e1⟩:=h.main hj h0;obtain⟨d1,d2,d3⟩:=hD;have hv:=qN ov;have hW:=UT h.2.1 j vs.length;rw[Qam t] at d2;generalize L[j+vs.length]?.getD 0=z at *;generalize jb ((L'.drop j).take vs.length)=W at *;refine⟨?_,?_⟩
 ·rcases Qae (z+1) br with h1 | h1
  ·have:B9^vs.length*(z+2)≤B9^vs.length*br:=Qan _ h1
   rw[Qau] at this;omega
  ·omega
 ·rcases QaA t with ht | ht
  ·subst ht
   have:B9^vs.length*(z+1)≤B9^vs.length*br:=Qan _ hlt;rw[Qau] at this;omega
  ·exact ht
def yu (vs L0 L:List Nat) (j k c:Nat):Prop:=L.length=L0.length∧jI L∧L.take j=L0.take j∧L.drop (j+vs.length)=L0.drop (j+vs.length)∧c≤1 ∧
 jb L+B9^(j+k)*c=jb L0+B9^j*jb (vs.take k)
theorem yu.start {vs L0:List Nat} (j:Nat) (h:jI L0):yu vs L0 L0 j 0 0:=⟨rfl,h,rfl,rfl,by omega,by simp[jb]⟩
theorem yu.step {vs L0 L:List Nat} {j k c d c':Nat} (h:yu vs L0 L j k c) (hk:k<vs.length) (hlen:j+vs.length≤L0.length) (hd:d<B9) (hc:c'≤1)
  (he:d+B9*c'=L[j+k]?.getD 0+vs[k]?.getD 0+c):yu vs L0 (L.set (j+k) d) j (k+1) c':=by
 obtain⟨h1,h2,h3,h4,h5,h6⟩:=h;refine⟨by simp[h1],Ju h2 _ _ hd,by rw[Kj _ _ _ _ (by omega)];exact h3,by rw[Qa9 (by omega)];exact h4,hc,?_⟩;have hs:=Xq L (j+k) d (by omega);rw[Xt vs,show j+(k+1)=(j+k)+1 from by omega,QaD]
 have e:B9^(j+k)*(d+B9*c')=B9^(j+k)*(L[j+k]?.getD 0+vs[k]?.getD 0+c):=by rw[he]
 have e2:B9^j*(B9^k*vs[k]?.getD 0)=B9^(j+k)*vs[k]?.getD 0:=by rw[Qbj,Qal]
 simp only[Qau,e2] at e hs h6 ⊢;rw[Qal (B9^(j+k)) B9 c'];omega
theorem yu.fit {vs L L' M:List Nat} {t j br c:Nat} (hS:xH vs L L' t j vs.length br) (hA:yu vs L' M j vs.length c) (ov:jI vs) (hj:j+vs.length<L.length) (h0:jb (L.drop (j+vs.length+1))=0) (hD:yU B9 (jb (L.drop j)) (jb vs) t) (hlt:L[j+vs.length]?.getD 0<br):
  c=1∧jb (L.drop j)=jb vs*(t-1)+jb ((M.set (j+vs.length) 0).drop j)∧jb ((M.set (j+vs.length) 0).drop j)<jb vs:=by
 obtain⟨hz,ht⟩:=hS.over ov hj h0 hD hlt;obtain⟨e,e0,e1⟩:=hS.main hj h0;have hl:L'.length=L.length:=hS.1;have hl2:M.length=L'.length:=hA.1;obtain⟨a1,a2,a3,a4,a5,a6⟩:=hA;obtain⟨g1,g2⟩:=VX a4;rw[Qad (Nat.le_refl _),Qbj,Qal] at a6;have h7:=Ea a1 a3 (by omega) a6;rw[YE (L:=M) (j:=j) (n:=vs.length) (by omega) (by rw[g2];exact e0),YE (L:=L') (j:=j) (n:=vs.length) (by omega) e0,g1,e1] at h7;rw[EX (by omega) (by rw[g2];exact e0),QbF,Qbf];obtain⟨d1,d2,d3⟩:=hD
 obtain⟨t',rfl⟩:∃t',t=t'+1:=⟨t-1,by omega⟩
 rw[Qaz,Qbd,Qam _ (jb vs)] at d2;rw[Qaz,Qbd,Qam _ (jb vs)] at d3;rw[Qb1];have hW:=UT a2 j vs.length;have hW1:=UT hS.2.1 j vs.length;subst hz;simp only[Qau,Qbr] at *;generalize L[j+vs.length]?.getD 0=z at *;generalize jb ((L'.drop j).take vs.length)=W at *;generalize jb ((M.drop j).take vs.length)=W2 at *
 have hc:c=1:=by
  rcases Qae c 1 with h1 | h1
  ·have:c=0:=by omega
   subst this;omega
  ·omega
 subst hc;omega
theorem Gz {v f:Nat} (hv:0<v) (hv2:v<B9) (hf:f=B9/(v+1)):0<f∧f<B9∧f*(v+1)≤B9∧B9≤2*(v*f):=by
 have h1:=QaP B9 (v+1);have h2:=QaI B9 (show 0<v+1 by omega);rw[←hf] at h1
 have hf0:0<f:=by
  rcases QaA f with h | h
  ·rw[h] at h1;omega
  ·exact h
 have h3:f*(v+1)≤B9:=by rw[Qam];omega
 have h4:f*2≤f*(v+1):=Qan _ (by omega);refine⟨hf0,by unfold B9 at *;omega,h3,?_⟩;rcases Qae (2*v) B9 with hlt | hge
 ·rcases Qae v 2 with h5 | h5
  ·have:v=1:=by omega
   subst this;unfold B9 at *;omega
  ·obtain⟨b,hb⟩:∃b,B9=2*v+2+b:=⟨B9-(2*v+2),by unfold B9 at *;omega⟩
   have h6:v+2+b≤f*(v+1):=by rw[Qam];omega
   rcases Qae (2*(v*f)) B9 with h9 | h9
   ·exfalso
    have h10:(v+1)*(2*(v*f)+1)≤(v+1)*B9:=Qan _ h9;have h11:2*v*(v+2+b)≤2*v*(f*(v+1)):=Qan _ h6
    have k1:(v+1)*(2*(v*f)+1)=2*v*(f*(v+1))+(v+1):=by
     rw[Qau,Qbr,Nat.mul_left_comm,Qal 2 v,Qam (v+1),Qal v f]
    have k2:2*v*(v+2+b)=2*(v*v)+4*v+2*(v*b):=by rw[Qal];simp only[Qau];omega
    have k3:(v+1)*(2*v+2+b)=2*(v*v)+4*v+2+v*b+b:=by rw[Qaz,Qbd,Qau,Qau,Nat.mul_left_comm v 2 v];omega
    have k4:2*b≤v*b:=Qas _ h5;rw[hb,k3,k1] at h10;omega
   ·exact h9
 ·have:2*v*1≤2*v*f:=Qan _ hf0
  rw[←Qal];omega
def Ag (U V:Nat) (w:World) (e:Ending) (w':World):Prop:=∃t:Nat,e = .returned (.int .i64 (t:Int))∧yU B9 U V t∧Below w.heap.size w w'
theorem Ai (uv vv:Value) (us vs:List Nat) (j m:Nat) (w:World) (hu:jD w uv (jm us)) (hv:jD w vv (jm vs)) (ou:jI us) (ov:jI vs) (hl:vs.length=m+2) (hul:j+m+2<us.length)
  (hz:jb (us.drop (j+m+3))=0) (hlt:jb (us.drop j)<B9*jb vs) (hn:B9≤2*vs[m+1]?.getD 0) (hs:us.length≤3000000):
  Calls Tryz.prog 188 #[uv,vv,.int .i64 (j:Int)] w (Ag (jb (us.drop j)) (jb vs) w):=by
 obtain⟨A,c,rfl,hc1,hc2⟩:=hu.form;obtain⟨B,d,rfl,hd1,hd2⟩:=hv.form;have HK:=hid (Bh ou ov hl hul hz hlt hn);obtain⟨b1,off1,rfl,hbb1,hcell1⟩:=hu.at_ (k:=0) (by rw[kh];omega);obtain⟨b2,off2,rfl,hbb2,hcell2⟩:=hv.at_ (k:=0) (by rw[kh];omega);simp only[kh] at hc1 hd1 hcell1 hcell2 ⊢;have c0:=(hcell1 (j+m+2) (by omega)).trans (qq us (j+m+2) hul);have c1:=(hcell1 (j+m+1) (by omega)).trans (qq us (j+m+1) (by omega));have c2:=(hcell1 (j+m) (by omega)).trans (qq us (j+m) (by omega));have d1:=(hcell2 (m+1) (by omega)).trans (qq vs (m+1) (by omega));have d2:=(hcell2 m (by omega)).trans (qq vs m (by omega));have u0b:=kR ou (j+m+2);have u1b:=kR ou (j+m+1);have u2b:=kR ou (j+m);have v1b:=kR ov (m+1);have v2b:=kR ov m;clear hz hlt hu hv ou ov hcell1 hcell2;generalize us[j+m+2]?.getD 0=u0 at *;generalize us[j+m+1]?.getD 0=u1 at *;generalize us[j+m]?.getD 0=u2 at *;generalize vs[m+1]?.getD 0=v1 at *;generalize vs[m]?.getD 0=v2 at *;generalize jb (us.drop j)=U at *;generalize jb vs=V at *;generalize us.length=L at *;generalize vs.length=n at *
 have hv1:(0:Int)<(v1:Int):=by unfold B9 at hn;omega
 have u0I:(u0:Int)<1000000000:=by unfold B9 at *;omega
 have u1I:(u1:Int)<1000000000:=by unfold B9 at *;omega
 have u2I:(u2:Int)<1000000000:=by unfold B9 at *;omega
 have v1I:(v1:Int)<1000000000:=by unfold B9 at *;omega
 obtain⟨top,htop⟩:∃top,u0*B9+u1=top:=⟨_,rfl⟩
 rw[htop] at HK
 have htI:(u0:Int)*1000000000+(u1:Int)=(top:Int):=by rw[←htop];unfold B9;omega
 have htb:top<1000000000000000000:=by rw[←htop];unfold B9 at *;omega
 have HI0:=hid HK.out.start;have HR0:Hid (top%v1<v1):=hid (QaI _ (by omega));have HD0:Hid (top/v1≤top):=hid (QaW _ _);have Q1:(top:Int)/(v1:Int)=((top/v1:Nat):Int):=(Qbn _ _).symm;have Q2:(top:Int)%(v1:Int)=((top%v1:Nat):Int):=(Qce _ _).symm
 obtain⟨N0,hN0⟩:∃N0,N0=j+m+2:=⟨_,rfl⟩
 obtain⟨N1,hN1⟩:∃N1,N1=j+m+1:=⟨_,rfl⟩
 obtain⟨N2,hN2⟩:∃N2,N2=j+m:=⟨_,rfl⟩
 obtain⟨M1,hM1⟩:∃M1,M1=m+1:=⟨_,rfl⟩
 rw[←hN0] at c0;rw[←hN1] at c1;rw[←hN2] at c2;rw[←hM1] at d1
 have i0:(j:Int)+(n:Int)=(N0:Int):=by omega
 have i1:(N0:Int)-1=(N1:Int):=by omega
 have i2:(N0:Int)-2=(N2:Int):=by omega
 have i3:(n:Int)-1=(M1:Int):=by omega
 have i4:(n:Int)-2=(m:Int):=by omega
 have l0:(N0:Int)<(L:Int):=by omega
 have l1:(N1:Int)<(L:Int):=by omega
 have l2:(N2:Int)<(L:Int):=by omega
 have l3:(M1:Int)<(n:Int):=by omega
 have l4:(m:Int)<(n:Int):=by omega
 have l5:(L:Int)≤3000000:=by omega
 have l6:(n:Int)≤3000000:=by omega
 have l7:(j:Int)≤3000000:=by omega
 clear hN0 hN1 hN2 hM1 hl hul hs;have HQ1:=hid Q1;have HQ2:=hid Q2;have HV2:=hid v2b;clear Q1 Q2 htop u0b u1b u2b v1b v2b;generalize top/v1=t0 at *;generalize top%v1=r0 at *;go_enter Tryz.func188,Tryz.ntmps188
 go_wp2_with fail
 go_quiet (fail)
 have hB1:=below_drewN (Below.refl w.heap.size w) nq
 go_wp2_with fail
 go_quiet (fail)
 have hB2:=below_drewN hB1 nq
 have ht0:(t0:Int)<1000000000000000000:=by have:=HD0.out;omega
 have hr0:(r0:Int)<1000000000:=by have:=HR0.out;omega
 have ht0w:wrap64 (t0:Int)=(t0:Int):=IntWalk.wrap64_in _ (by omega);rw[HQ1.out,HQ2.out]
 go_wp2_with fail
 rw[ht0w];clear ht0w;have HB2:=hid hB2;clear hB1 hB2 HQ1 HQ2 HD0 HR0 htb htI
 go_loopg [6,9,10] t0 (fun g _ t r wr=>∃r':Nat,t = .int .i64 (g:Int)∧r = .int .i64 (r':Int)∧(g:Int)<1000000000000000000∧(r':Int)<1000000000∧Hid (yh top v1 U V g r')∧Hid (Below w.heap.size w wr))
 case atStart=>exact⟨r0,rfl,rfl,ht0,hr0,HI0,HB2⟩
 case round=>
  clear HB2 HI0 ht0 hr0;obtain⟨r',rfl,rfl,hg9,hr9,hI,hB⟩:=hrel;have hk2:=(hB.out.cell (p:=⟨b1,off1+N2,none⟩) hbb1).trans c2;have he1:=(hB.out.cell (p:=⟨b2,off2+M1,none⟩) hbb2).trans d1;have he2:=(hB.out.cell (p:=⟨b2,off2+m,none⟩) hbb2).trans d2;by_cases hge:1000000000≤gk
  ·have hgI:(1000000000:Int)≤(gk:Int):=by omega
   obtain⟨t',ht',hI2⟩:=HK.out.down hI.out (.inl hge);have HI2:=hid hI2;have HEF:=hid (fun h=>HK.out.exit_far (t:=t') (by rw[←ht'];exact hI.out) hI2 h);clear hI hI2;subst ht'
   have hgJ:(1000000000:Int)≤(t':Int)+1:=by omega
   clear hge hgI
   go_wp2_with fail
   go_quiet (fail)
   have HB3:=hid (below_drewN hB.out nq);by_cases hfar:1000000000≤r'+v1
   ·have hfI:(1000000000:Int)≤(r':Int)+(v1:Int):=by omega
    have HD:=hid (HEF.out hfar);clear hfar HEF
    go_wp2
    go_ret;exact⟨t',by go_num,HD.out,HB3.out⟩
   ·have hfI:¬(1000000000:Int)≤(r':Int)+(v1:Int):=by omega
    clear hfar HEF
    go_wp2
    go_roundg t'
    case rel=>exact⟨r'+v1,by go_num,by go_num,by omega,by omega,HI2,HB3⟩
    case measure=>omega
  ·obtain⟨tv,htv⟩:∃tv,gk*v2=tv:=⟨_,rfl⟩
   have htvb:tv<1000000000000000000:=by
    have h1:gk*v2≤999999999*999999999:=Qbh (by omega) (by have:=HV2.out;unfold B9 at this;omega);rw[htv] at h1;omega
   by_cases hlt:r'*1000000000+u2<tv
   ·have hlI:(r':Int)*1000000000+(u2:Int)<(tv:Int):=by omega
    have htw:wrap64 (((gk:Nat):Int)*(v2:Int))=(tv:Int):=by rw[←QaM,htv];exact IntWalk.wrap64_in _ (by omega)
    obtain⟨t',ht',hI2⟩:=HK.out.down hI.out (.inr (by rw[htv];exact hlt));have HI2:=hid hI2;have HEF:=hid (fun h=>HK.out.exit_far (t:=t') (by rw[←ht'];exact hI.out) hI2 h);clear hI hI2 htv hlt;subst ht';have htw2:wrap64 (((t':Int)+1)*(v2:Int))=(tv:Int):=htw;clear htw;have hgJ:decide ((1000000000:Int)≤(t':Int)+1)=false:=Qat (by clear htw2;omega);clear hge
    go_wp2_with fail
    go_quiet (fail)
    have HB3:=hid (below_drewN hB.out nq);by_cases hfar:1000000000≤r'+v1
    ·have hfI:(1000000000:Int)≤(r':Int)+(v1:Int):=by omega
     have HD:=hid (HEF.out hfar);clear hfar HEF
     go_wp2
     go_ret;exact⟨t',by go_num,HD.out,HB3.out⟩
    ·have hfI:¬(1000000000:Int)≤(r':Int)+(v1:Int):=by omega
     clear hfar HEF
     go_wp2
     go_roundg t'
     case rel=>exact⟨r'+v1,by go_num,by go_num,by omega,by omega,HI2,HB3⟩
     case measure=>omega
   ·have hlI:decide ((r':Int)*1000000000+(u2:Int)<(tv:Int))=false:=Qat (by omega)
    have HD:=hid (HK.out.exit hI.out (show gk<B9 from by unfold B9;omega) (by rw[htv];show tv≤r'*1000000000+u2;omega))
    have htw:wrap64 ((gk:Int)*(v2:Int))=(tv:Int):=by rw[←QaM,htv];exact IntWalk.wrap64_in _ (by omega)
    have hgI:decide ((1000000000:Int)≤(gk:Int))=false:=Qat (by clear htw hlI;omega);clear hge hI htv hlt
    go_wp2_with fail
    go_quiet (fail)
    have HB3:=hid (below_drewN hB.out nq)
    go_wp2
    go_ret;exact⟨gk,rfl,HD.out,HB3.out⟩
