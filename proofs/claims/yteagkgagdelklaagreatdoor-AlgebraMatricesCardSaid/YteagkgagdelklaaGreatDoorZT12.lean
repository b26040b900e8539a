/- Contracts: the difference of two rational numbers. -/
import Derived.Test.YteagkgagdelklaaGreatDoorZT11
import Derived.Test.YteagkgagdelklaaGreatDoorZT05
set_option maxRecDepth 100000
set_option maxHeartbeats 4000000
namespace Go.Proofs.YteagkgagdelklaaGreatDoor
open Go.RowKit Go.Lib
theorem yf.neg {p q:Rat} (h:yf p q):yf p (-q):=by
 obtain⟨h1,h2,h3⟩:=h;refine⟨h1,⟨by rw[Rat.neg_num,Qb4];exact h2.1,by rw[Rat.neg_den];exact h2.2⟩,by rw[Rat.neg_num,Qb4,Rat.neg_den];exact h3⟩
theorem FQ {w x:World} {q:Rat} {g:Nat} {s:Bool} {a b:Value} (hv:Rt x (.agg #[.bool s,a,b]) q) (hR:ja x g 69 [.bool false,.slice none 0 0,.slice none 0 0]) (hB:Below w.heap.size w x) (hg:w.heap.size≤g):
  qR q w (.returned (.agg #[.bool s,a,b])) (((x.setCell ⟨g,0,none⟩ (.bool s)).setCell ⟨g,1,none⟩ a).setCell ⟨g,2,none⟩ b):=by
 obtain⟨nv,dv,he,h1,h2⟩:=hv
 have e:s=decide (q.num<0)∧a=nv∧b=dv:=by simpa using he
 obtain⟨rfl,rfl,rfl⟩:=e;exact⟨_,rfl,⟨_,_,rfl,h1.put3 hR (ju _) (jr _ _ _) (jr _ _ _) (ju _) h1.noInt,h2.put3 hR (ju _) (jr _ _ _) (jr _ _ _) (ju _) h1.noInt⟩,((hB.setCell (by simpa using hg) _).setCell (by simpa using hg) _).setCell (by simpa using hg) _⟩
theorem Rt.shape {w:World} {v:Value} {q:Rat} (h:Rt w v q):∃s A1 n1 c1 A2 n2 c2,v = .agg #[.bool s,.slice A1 n1 c1,.slice A2 n2 c2]:=by
 obtain⟨nv,dv,rfl,h1,h2⟩:=h;obtain⟨A1,n1,c1,rfl,_⟩:=h1.size_;obtain⟨A2,n2,c2,rfl,_⟩:=h2.size_;exact⟨_,_,_,_,_,_,_,rfl⟩
theorem Ma (v u:Value) (p q:Rat) (w:World) (h:Rt w v p) (h':Rt w u q) (hf:yf p q):
  Calls Tryz.prog 71 #[v,u] w (qR (p-q) w):=by
 have PL:=hid (fun (u:Value) W (h:Rt W v p) (h':Rt W u (-q))=>Mb v u p (-q) W h h' hf.neg);have HE:Hid (p-q=p + -q):=hid (Rat.sub_eq_add_neg p q);obtain⟨s1,A1,n1,c1,A2,n2,c2,hv⟩:=h.shape;obtain⟨s2,A3,n3,c3,A4,n4,c4,hu⟩:=h'.shape;obtain⟨W0,hW0,hP,hQ,hR,hB0,hs0⟩:=Vt w (.bool s1) (.slice A1 n1 c1) (.slice A2 n2 c2) (.bool s2) (.slice A3 n3 c3) (.slice A4 n4 c4);have Hv:=hid (h.below hB0);have Hu:=hid (h'.below hB0);subst hv hu;obtain⟨p0,p1,p2,_,_,_⟩:=hP.three;obtain⟨q0,q1,q2,_,_,_⟩:=hQ.three;have HP:=hid hP;have HQ:=hid hQ;have HR:=hid hR;have HB0:=hid hB0;have hs:=hs0;have HRd:Hid (ja W0.drew (w.heap.size+1+1) 69 [.bool false,.slice none 0 0,.slice none 0 0]):=hid (by have t:=hR;exact t);clear h h' hf hP hQ hR hB0 hs0
 have KW:Hid (∀x:World,ja x w.heap.size 69 [.bool s1,.slice A1 n1 c1,.slice A2 n2 c2]→ja x (w.heap.size+1) 69 [.bool s2,.slice A3 n3 c3,.slice A4 n4 c4]→x.cell? ⟨w.heap.size,0,none⟩=some (.bool s1)∧x.cell? ⟨w.heap.size,1,none⟩=some (.slice A1 n1 c1)∧x.cell? ⟨w.heap.size,2,none⟩=some (.slice A2 n2 c2)∧x.cell? ⟨w.heap.size+1,0,none⟩=some (.bool s2)∧x.cell? ⟨w.heap.size+1,1,none⟩=some (.slice A3 n3 c3)∧x.cell? ⟨w.heap.size+1,2,none⟩=some (.slice A4 n4 c4)):=hid (fun x h1 h2=>
  ⟨h1.cell 0,h1.cell 1,h1.cell 2,h2.cell 0,h2.cell 1,h2.cell 2⟩)
 have hK0:Hid (ja W0.drew w.heap.size 69 [.bool s1,.slice A1 n1 c1,.slice A2 n2 c2]∧ja W0.drew (w.heap.size+1) 69 [.bool s2,.slice A3 n3 c3,.slice A4 n4 c4]):=hid ⟨HP.out,HQ.out⟩;have KT:Hid (∀x x':World,Below x.heap.size x x'→Hid (ja x w.heap.size 69 [.bool s1,.slice A1 n1 c1,.slice A2 n2 c2]∧ja x (w.heap.size+1) 69 [.bool s2,.slice A3 n3 c3,.slice A4 n4 c4])→Hid (ja x' w.heap.size 69 [.bool s1,.slice A1 n1 c1,.slice A2 n2 c2]∧ja x' (w.heap.size+1) 69 [.bool s2,.slice A3 n3 c3,.slice A4 n4 c4])):=hid (fun x x' hb h=>hid ⟨h.out.1.below hb h.out.1.lt,h.out.2.below hb h.out.2.lt⟩)
 have KU:Hid (∀(x:World) (a b c:Value),Hid (ja x w.heap.size 69 [.bool s1,.slice A1 n1 c1,.slice A2 n2 c2]∧ja x (w.heap.size+1) 69 [.bool s2,.slice A3 n3 c3,.slice A4 n4 c4])→Hid (ja (((x.setCell ⟨w.heap.size+1+1,0,none⟩ a).setCell ⟨w.heap.size+1+1,1,none⟩ b).setCell ⟨w.heap.size+1+1,2,none⟩ c) w.heap.size 69 [.bool s1,.slice A1 n1 c1,.slice A2 n2 c2]∧ja (((x.setCell ⟨w.heap.size+1+1,0,none⟩ a).setCell ⟨w.heap.size+1+1,1,none⟩ b).setCell ⟨w.heap.size+1+1,2,none⟩ c) (w.heap.size+1) 69 [.bool s2,.slice A3 n3 c3,.slice A4 n4 c4])):=hid (fun x a b c h=>hid
  ⟨((h.out.1.other (p:=⟨w.heap.size+1+1,0,none⟩) (by simp;omega) _).other (p:=⟨w.heap.size+1+1,1,none⟩) (by simp;omega) _).other (p:=⟨w.heap.size+1+1,2,none⟩) (by simp;omega) _,((h.out.2.other (p:=⟨w.heap.size+1+1,0,none⟩) (by simp) _).other (p:=⟨w.heap.size+1+1,1,none⟩) (by simp) _).other (p:=⟨w.heap.size+1+1,2,none⟩) (by simp) _⟩)
 go_enter Tryz.func71,Tryz.ntmps71
 go_upto_region 1 with fail
 rw[←hW0];clear hW0
 go_region_held3 (fun x=>x.cell? ⟨w.heap.size,0,none⟩=some (.bool s1)∧x.cell? ⟨w.heap.size,1,none⟩=some (.slice A1 n1 c1)∧x.cell? ⟨w.heap.size,2,none⟩=some (.slice A2 n2 c2)∧x.cell? ⟨w.heap.size+1,0,none⟩=some (.bool s2)∧x.cell? ⟨w.heap.size+1,1,none⟩=some (.slice A3 n3 c3)∧x.cell? ⟨w.heap.size+1,2,none⟩=some (.slice A4 n4 c4))
  (first | exact KW.out _ hK0.out.1 hK0.out.2 | exact KW.out _ hK1.out.1 hK1.out.2 | exact KW.out _ hK2.out.1 hK2.out.2 | exact KW.out _ (KU.out _ _ _ _ hK2).out.1 (KU.out _ _ _ _ hK2).out.2)
  (first
   | (go_at_call 117;refine(Cq _ q _ (Hu.out.below (Below.refl _ _).drew)).mono ?_;rintro e1 w1 ⟨nv,rfl,hnv,hB1⟩;have hK1:=KT.out _ _ hB1 hK0;have hR1:=qJ hB1 HRd)
   | (go_at_call 116;refine(PL.out nv _ (Hv.out.below (xJ hB1)) hnv).mono ?_;rintro e2 w2 ⟨rv,rfl,hrv,hB2⟩;have hK2:=KT.out _ _ hB2 hK1;have hR2:=qJ hB2 hR1;obtain⟨s5,A5,n5,c5,A6,n6,c6,rfl⟩:=hrv.shape;obtain⟨r0,r1,r2,k0,k1,k2⟩:=hR2.out.three))
 have hB2':=((HB0.out.trans ((xJ hB1).mono HB0.out.size)).trans (hB2.mono (Qap HB0.out.size hB1.size)))
 have HEnd:=hid (FQ hrv hR2.out hB2' (show w.heap.size≤w.heap.size+1+1 by omega));clear hB2' hB1 hB2 hrv hR1 hR2 hK1 hK2 KW KT KU PL Hu Hv;rw[←HE.out] at HEnd
 go_wp2
 exact bodyPost_ret (v:= .agg #[.bool s5,.slice A5 n5 c5,.slice A6 n6 c6]) (by simp[results,Tryz.results71,go_sem,r0,r1,r2]) rfl HEnd.out
theorem MZ (v u:Value) (p q:Rat) (w:World) (h:Rt w v p) (h':Rt w u q) (hf:yf p q):
  Calls Tryz.prog 250 #[.agg #[],v,u] w (qR (p-q) w):=by
 have RO:=hid (fun W (h:Rt W v p) (h':Rt W u q)=>Ma v u p q W h h' hf);clear hf;have HH:=hid h;have HH':=hid h';obtain⟨av,bv,hv,-,-⟩:=h;obtain⟨cv,dv,hu,-,-⟩:=h';generalize decide (p.num<0)=na at hv;generalize decide (q.num<0)=nb at hu
 obtain⟨W0,hW0⟩:∃W0,W0=(((w.alloc (.cells #[] 77)).alloc (.cells #[.bool na,av,bv] 69)).alloc (.cells #[.bool nb,cv,dv] 69)).alloc (.cells #[.bool false,.slice none 0 0,.slice none 0 0] 69):=⟨_,rfl⟩
 have hB0:Below w.heap.size w W0:=by rw[hW0];exact((((Below.refl _ _).alloc (Nat.le_refl _) _).alloc (by simp) _).alloc (by simp;omega) _).alloc (by simp;omega) _
 have hP:ja W0 (w.heap.size+1) 69 [.bool na,av,bv]:=by
  rw[hW0];have:=ja.make (w.alloc (.cells #[] 77)) 69 [.bool na,av,bv];simp only[World.size_alloc] at this;exact(this.alloc _).alloc _
 have hQ:ja W0 (w.heap.size+1+1) 69 [.bool nb,cv,dv]:=by
  rw[hW0];have:=ja.make ((w.alloc (.cells #[] 77)).alloc (.cells #[.bool na,av,bv] 69)) 69 [.bool nb,cv,dv];simp only[World.size_alloc] at this;exact this.alloc _
 have hR:ja W0 (w.heap.size+1+1+1) 69 [.bool false,.slice none 0 0,.slice none 0 0]:=by
  rw[hW0];have:=ja.make (((w.alloc (.cells #[] 77)).alloc (.cells #[.bool na,av,bv] 69)).alloc (.cells #[.bool nb,cv,dv] 69)) 69 [.bool false,.slice none 0 0,.slice none 0 0];simp only[World.size_alloc] at this;exact this
 have HR:=hid hR;obtain⟨c0,c1,c2,_,_,_⟩:=hP.three;obtain⟨d0,d1,d2,_,_,_⟩:=hQ.three;have RX:=hid (RO.out W0 (HH.out.below hB0) (HH'.out.below hB0));clear hP hQ hR RO HH HH';subst hv hu;go_enter Tryz.func250,Tryz.ntmps250
 go_upto_region 1 with fail
 rw[←hW0];clear hW0
 go_wp2_with fail
 refine RX.out.mono ?_;rintro e w2 ⟨v,rfl,hv,hB2⟩;clear c0 c1 c2 d0 d1 d2;obtain⟨nv,ev,rfl,hn,hd⟩:=hv;have hR2:=HR.out.below hB2 HR.out.lt;have hBt:=hB0.trans (hB2.mono hB0.size);have Hn:=hid (hn.put3 (c':=ev) hR2 (ju _) (jr _ _ _) (jr _ _ _) (ju (decide ((p-q).num<0))) hn.noInt);have Hd:=hid (hd.put3 (c':=ev) hR2 (ju _) (jr _ _ _) (jr _ _ _) (ju (decide ((p-q).num<0))) hn.noInt);obtain⟨e0,e1,e2,k0,k1,k2⟩:=hR2.three;obtain⟨A1,k1',c1,rfl,_⟩:=hn.size_;obtain⟨A2,k2',c2,rfl,_⟩:=hd.size_;clear hn hd hR2 hB2 RX HR
 have KR:∃ng,Hid (ng=decide ((p-q).num<0)):=⟨_,hid rfl⟩
 obtain⟨ng,hng⟩:=KR;rw[←hng.out] at Hn Hd;rw[←hng.out]
 go_wp2
 exact bodyPost_ret (v:= .agg #[.bool ng,.slice A1 k1' c1,.slice A2 k2' c2]) (by simp[results,Tryz.results250,go_sem,e0,e1,e2]) rfl ⟨_,rfl,⟨_,_,by rw[hng.out],Hn.out,Hd.out⟩,((hBt.setCell (by simp;omega) _).setCell (by simp;omega) _).setCell (by simp;omega) _⟩
end Go.Proofs.YteagkgagdelklaaGreatDoor
namespace Go.Proofs.YteagkgagdelklaaGreatDoor
open Go.RowKit
def xM (p:List Int) (i m:Nat):Nat:=(((p.drop (i+1)).take m).filter fun y=>decide (y<p[i]?.getD 0)).length
theorem XY (p:List Int) (i m:Nat):xM p i m≤m:=by
 unfold xM;refine Qap (List.length_filter_le _ _) ?_;rw[Qak];omega
theorem Bo (p:List Int) (i m:Nat) (h:i+1+m<p.length):xM p i (m+1)=xM p i m+(if p[i+1+m]?.getD 0<p[i]?.getD 0 then 1 else 0):=by
 unfold xM;rw[Yx _ m (by rw[Qa3];omega),List.filter_append,Qaf,List.getElem?_drop]
 congr 1
 by_cases hy:p[i+1+m]?.getD 0<p[i]?.getD 0 <;> simp[hy]
def xD (p:List Int):Nat→Nat
 | 0=>0
 | k+1=>xD p k*(p.length-k)+xM p k (p.length-k-1)
theorem H9 (p:List Int) (hp:p.length≤256) (k:Nat):xD p k<10^(3*k):=by
 induction k with
 | zero=>simp[xD]
 | succ k ih=>
  have h1:=XY p k (p.length-k-1);have h2:xD p k*(p.length-k)≤xD p k*256:=Qan _ (by omega)
  have h3:10^(3*(k+1))=10^(3*k)*1000:=by rw[Qau,Qbj]
  show xD p k*(p.length-k)+xM p k (p.length-k-1)<_
  rw[h3];omega
theorem FP (n:Nat):(j9 false n 1).num.natAbs≤n:=by
 obtain⟨e1,e2⟩:=KJ (n:=(n:Int)) (d:=1) (by decide) (by simp);unfold j9;simp only[Bool.false_eq_true,Qcf];rw[e1];omega
theorem FO (n:Nat):(j9 false n 1).den=1:=by
 obtain⟨e1,e2⟩:=KJ (n:=(n:Int)) (d:=1) (by decide) (by simp);unfold j9;simp only[Bool.false_eq_true,Qcf];exact e2
def Uo (p:List Int) (w:World) (e:Ending) (w':World):Prop:=
 (if ki p=0 then e=ye (j9 false (xD p p.length) 1) else e = .returned (.tuple #[.string ⟨#[]⟩,.int .i64 (ki p)]))∧Below w.heap.size w w'
theorem R6 (v:Value) (p:List Int) (w:World) (hv:Sl w 1 v (je p)) (hG:jK w) (hD:qI (3*p.length)):
  Calls Tryz.prog 22 #[v] w (Uo p w):=by
 obtain⟨A,c,rfl,hc1,hc2⟩:=hv.form;simp only[ku] at hc1 hv ⊢;have HD:=Lib.hid hD;clear hD;have CP:=Lib.hid (fun W h=>Q9 (.slice A p.length c) p W h);by_cases he:ki p=0
 ·have hPl:p.length≤256:=by have:=he;unfold ki at this;split at this;omega;split at this;omega;omega
  have He:=Lib.hid he;clear he;go_enter Tryz.func22,Tryz.ntmps22
  go_wp2_with fail
  refine(CP.out _ hv).mono ?_;rintro e w1 ⟨rfl,hB1⟩;rw[He.out]
  go_wp2_with fail
  go_loopg [5,6,7,8,10,18] p.length (fun g r _ _ _ _ i wr=>∃(k:Nat),k+g=p.length∧i = .int .i64 k∧Hid (Nt wr r (xD p k))∧Below w.heap.size w wr)
  case atStart=>exact⟨0,by omega,rfl,Lib.hid Nt.nil,hB1⟩
  case round=>
   clear hB1;obtain⟨k,hk,rfl,hN,hB⟩:=hrel
   cases gk with
   | zero=>
    have hkn:k=p.length:=by omega
    rw[hkn] at hN;have hlt:=H9 p hPl p.length;have hfit:=Lib.hid (jp.of_pow hlt HD.out (by omega));clear hlt hk;subst hkn;obtain⟨A2,rn,rc,rfl,_⟩:=hN.out.size_;have hone:=Nt.one wr 89;have hN1:=Lib.hid (Rt.mk_ (neg:=false) (by decide) (by simp) (by simp) (hN.out.below ((Below.refl _ _).alloc (Nat.le_refl _) (.cells #[.int .u64 1] 89))) hone);have hBw:=hB.alloc hB.size (.cells #[.int .u64 1] 89);have hGw:=hG.below hBw;clear hone
    go_wp2_with fail
    refine(YI _ _ _ hN1.out (jp.le hfit.out (FP _)) (jp.small (by rw[FO];decide)) hGw).mono ?_;rintro e w4 ⟨he,hB4⟩;have hBt:=hBw.trans (hB4.mono hBw.size)
    have Hif:Hid (∀e,e=ye (j9 false (xD p p.length) 1)→Uo p w e w4):=fun e he=>⟨by rw[if_pos He.out];exact he,hBt⟩
    obtain⟨s,c,hs⟩:=E8 (j9 false (xD p p.length) 1);rw[hs] at he Hif;subst he;clear hs
    go_wp2
    go_ret2;exact Hif.out _ rfl
   | succ g=>
    have hlt:k<p.length:=by omega
    obtain⟨b1,off1,rfl,hbb1,hcell1⟩:=hv.at_ (k:=k) (by rw[ku];omega);have hck1:=(hB.cell (p:=⟨b1,off1+k,none⟩) hbb1).trans ((hcell1 k (by rw[ku];omega)).trans (kz p k hlt));have HC:=Lib.hid (fun (wx:World) (j:Nat) (hb:Below w.heap.size w wx) (hj:j<p.length)=>(hb.cell (p:=⟨b1,off1+j,none⟩) hbb1).trans ((hcell1 j (by rw[ku];omega)).trans (kz p j hj)));have Hs:=Lib.hid (fun m h=>Bo p k m h);have Hk:Hid (k+(g+1)=p.length):=Lib.hid hk;have TP:=Lib.hid (fun u wx (h:Nt wx u (xD p k))=>ED u _ (p.length-k) (xM p k (p.length-k-1)) wx h (by unfold WB;omega) (by have:=XY p k (p.length-k-1);unfold WB;omega) (jp.of_pow (H9 p hPl k) (HD.out.le (by omega)) (by omega)))
    have hl1:(p.length:Int)-((k:Int)+1)=((p.length-k-1:Nat):Int):=by omega
    clear hcell1;obtain⟨A2,rn,rc,rfl,_⟩:=hN.out.size_;generalize hx:p[k]?.getD 0=x at *
    have hl2:(p.length:Int)-(k:Int)=((p.length-k:Nat):Int):=by omega
    have HX:Hid (p[k]?.getD 0=x):=Lib.hid hx;clear hx hv hl1 hk;rcases Decidable.em (c=k+1) with rfl | hcc
    all_goals (
     go_wp2_with fail
     go_loopg [8,10,28] (p.length-k-1) (fun h l _ i wx=>∃m:Nat,m+h=p.length-k-1∧l = .int .i64 (xM p k m)∧i = .int .i64 m∧Hid (Nt wx (.slice A2 rn rc) (xD p k))∧Below w.heap.size w wx)
     case atStart=>exact⟨0,by omega,by simp[xM],rfl,hN,hB⟩
     case round=>
      clear hN hB hck1;obtain⟨m,hm,rfl,rfl,hNx,hBx⟩:=hrel
      cases gk with
      | zero=>
       have hmm:m=p.length-k-1:=by omega
       have hin:¬((m:Int)<((p.length-(k+1):Nat):Int)):=by omega
       have TPx:=Lib.hid (TP.out _ _ hNx.out);rw[←hmm] at TPx
       have hll:xM p k m≤256:=by have:=XY p k m;omega
       have Hst:Hid (xD p (k+1)=xD p k*(p.length-k)+xM p k m):=Lib.hid (by rw[hmm];rfl)
       have hpk:p.length-k≤256:=by omega
       clear hm hmm;generalize xM p k m=lu at *
       go_wp2_with (go_at_call 57;refine TPx.out.mono ?_;rintro e w5 ⟨u,rfl,hNu,hB5⟩;rw[←Hst.out] at hNu;have HNu:=Lib.hid hNu;clear hNu)
       go_roundg g
       case rel=>exact⟨k+1,by have:=Hk.out;omega,by go_num,HNu,hBx.trans (hB5.mono hBx.size)⟩
       case measure=>omega
      | succ h=>
       have hin:((m:Int)<((p.length-(k+1):Nat):Int)):=by omega
       have hck:=HC.out _ (k+1+m) hBx (by omega);have hle:=XY p k m;have Hs2:=Hs.out m (by omega);have Hm:=Lib.hid hm
       have hadd:off1+(k+1)+m=off1+(k+1+m):=by omega
       generalize p[k+1+m]?.getD 0=y at *;by_cases hyx:y<x
       ·rw[if_pos hyx] at Hs2
        have HS:=Lib.hid Hs2;clear Hs2 hm;generalize xM p k m=lu at *
        go_wp2
        all_goals (
         go_roundg h
         case rel=>exact⟨m+1,by have:=Hm.out;omega,by rw[HS.out];rfl,by go_num,hNx,hBx⟩
         all_goals omega)
       ·rw[if_neg hyx] at Hs2
        have HS:=Lib.hid Hs2;clear Hs2 hm;generalize xM p k m=lu at *
        go_wp2
        all_goals (
         go_roundg h
         case rel=>exact⟨m+1,by have:=Hm.out;omega,by rw[HS.out];rfl,by go_num,hNx,hBx⟩
         all_goals omega))
 ·have hb:(ki p != 0)=true:=by simpa using he
  have Hne:=Lib.hid he;clear he;generalize hE:ki p=E at *;have HE:=Lib.hid hE;have Hres:Hid (∀e w',e = .returned (.tuple #[.string ⟨#[]⟩,.int .i64 E])→Below w.heap.size w w'→Uo p w e w'):=Lib.hid (fun e w' h1 h2=>⟨by rw[HE.out,if_neg Hne.out];exact h1,h2⟩);clear hE;go_enter Tryz.func22,Tryz.ntmps22
  go_wp2_with fail
  refine(CP.out _ hv).mono ?_;rintro e w1 ⟨rfl,hB1⟩
  go_wp2
  go_ret2;exact Hres.out _ _ rfl hB1
end Go.Proofs.YteagkgagdelklaaGreatDoor
namespace Go.Proofs.YteagkgagdelklaaGreatDoor
open Go.RowKit Go.Lib
instance (l:List UInt8):Decidable (j7 l):=by unfold j7;infer_instance
instance (l:List UInt8):Decidable (jF l):=by unfold jF;infer_instance
def KY (neg:Bool) (a b:List UInt8) (f:Bool):Int×Rat:=
 if ¬jF a∨(neg=true∧a=[48]) then (1,0)
 else if f=true then
  if ¬jF b∨b=[48]∨b=[49] then (1,0)
  else if 600<a.length∨600<b.length then (4,0)
  else if Nat.gcd (jf a) (jf b)=1 then (0,j9 neg (jf a) (jf b)) else (1,0)
 else if 600<a.length then (4,0) else (0,j9 neg (jf a) 1)
def j6 (l:List UInt8):Int×Rat:=KY (hasPrefix l [45]) (cut (trimPrefix l [45]) [47]).1 (cut (trimPrefix l [45]) [47]).2.1 (cut (trimPrefix l [45]) [47]).2.2
def zM (r:Int×Rat) (w:World) (e:Ending) (w':World):Prop:=if r.1=0 then JH r.2 w e w' else ql r.1 w e w'
theorem Yj {q:Rat} {w:World} {e:Ending} {w':World} (h:JH q w e w'):zM (0,q) w e w':=by unfold zM;rw[if_pos rfl];exact h
theorem qT {c:Int} {w:World} {e:Ending} {w':World} (hc:c≠0) (h:ql c w e w'):zM (c,0) w e w':=by unfold zM;rw[if_neg hc];exact h
theorem Nl (dg a b:List UInt8) (h:cut dg [47]=(a,b,false)):b=[]:=by
 unfold cut at h;split at h
 ·simp at h
 ·simp at h;exact h.2
theorem Nk (dg a b:List UInt8) (f:Bool) (h:cut dg [47]=(a,b,f)):a.length≤dg.length∧b.length≤dg.length:=by
 unfold cut at h;split at h
 ·simp only[Prod.mk.injEq] at h
  obtain⟨h1,h2,_⟩:=h;subst h1 h2;constructor
  ·rw[Qak];omega
  ·rw[Qa3];omega
 ·simp only[Prod.mk.injEq] at h
  obtain⟨h1,h2,_⟩:=h;subst h1 h2
  simp
theorem UN (l:List UInt8):(trimPrefix l [45]).length≤l.length:=by
 unfold trimPrefix;split
 ·rw[Qa3];omega
 ·exact Nat.le_refl _
theorem Lp (l dg a b:List UInt8) (neg f:Bool) (w:World) (h1:hasPrefix l [45]=neg) (h2:trimPrefix l [45]=dg) (h3:cut dg [47]=(a,b,f)) (hdl:dg.length<4294967281) (hG:jK w) (hD:qI dg.length):
  Calls Tryz.prog 36 #[.string ⟨l.toArray⟩] w (zM (KY neg a b f) w):=by
 obtain⟨ha,hb⟩:=Nk dg a b f h3
 have hal:a.length<4294967281:=by omega
 have hbl:b.length<4294967281:=by omega
 unfold KY;by_cases hn:jF a
 ·by_cases hz:neg=true∧a=[48]
  ·rw[if_pos (.inr hz)]
   obtain⟨rfl,hz⟩:=hz
   have hz':(a==[48])=true:=by simpa using hz
   cases f with
   | true=>exact(Ll l dg a b w h1 h2 h3 hdl hal hG hn hz').mono fun _ _ h=>qT (by decide) h
   | false=>exact(Lm l dg a b w h1 h2 h3 hdl hal hG hn hz').mono fun _ _ h=>qT (by decide) h
  ·rw[if_neg (by rintro (h | h);exact h hn;exact hz h)]
   cases f with
   | false=>
    rw[if_neg (by simp)];have hbn:=Nl dg a b h3;by_cases hlen:600<a.length
    ·rw[if_pos hlen]
     cases neg with
     | true=>exact(Lj l dg a b w h1 h2 h3 hdl hal hG hn (by simpa using hz) hlen).mono fun _ _ h=>qT (by decide) h
     | false=>exact(Lk l dg a b w h1 h2 h3 hdl hal hG hn hlen).mono fun _ _ h=>qT (by decide) h
    ·rw[if_neg hlen]
     cases neg with
     | true=>exact(Lq l dg a b w h1 h2 h3 hdl hal hG (hD.le ha) hn (by simpa using hz) hbn (by omega)).mono fun _ _ h=>Yj h
     | false=>exact(Lr l dg a b w h1 h2 h3 hdl hal hG (hD.le ha) hn hbn (by omega)).mono fun _ _ h=>Yj h
   | true=>
    rw[if_pos rfl];by_cases hd:jF b
    ·by_cases h48:b=[48]
     ·rw[if_pos (.inr (.inl h48))]
      have h48':(b==[48])=true:=by simpa using h48
      cases neg with
      | true=>exact(F7 l dg a b w h1 h2 h3 hdl hal hbl hG hn (by simpa using hz) hd h48').mono fun _ _ h=>qT (by decide) h
      | false=>exact(F8 l dg a b w h1 h2 h3 hdl hal hbl hG hn hd h48').mono fun _ _ h=>qT (by decide) h
     ·have h48':(b==[48])=false:=by simpa using h48
      by_cases h49:b=[49]
      ·rw[if_pos (.inr (.inr h49))]
       have h49':(b==[49])=true:=by simpa using h49
       cases neg with
       | true=>exact(F9 l dg a b w h1 h2 h3 hdl hal hbl hG hn (by simpa using hz) hd h48' h49').mono fun _ _ h=>qT (by decide) h
       | false=>exact(La l dg a b w h1 h2 h3 hdl hal hbl hG hn hd h48' h49').mono fun _ _ h=>qT (by decide) h
      ·have h49':(b==[49])=false:=by simpa using h49
       rw[if_neg (by rintro (h | h | h);exact h hd;exact h48 h;exact h49 h)];by_cases hla:600<a.length
       ·rw[if_pos (.inl hla)]
        cases neg with
        | true=>exact(Lg l dg a b w h1 h2 h3 hdl hal hbl hG hn (by simpa using hz) hd h48' h49' hla).mono fun _ _ h=>qT (by decide) h
        | false=>exact(Li l dg a b w h1 h2 h3 hdl hal hbl hG hn hd h48' h49' hla).mono fun _ _ h=>qT (by decide) h
       ·by_cases hlb:600<b.length
        ·rw[if_pos (.inr hlb)]
         cases neg with
         | true=>exact(Ld l dg a b w h1 h2 h3 hdl hal hbl hG hn (by simpa using hz) hd h48' h49' (by omega) hlb).mono fun _ _ h=>qT (by decide) h
         | false=>exact(Lf l dg a b w h1 h2 h3 hdl hal hbl hG hn hd h48' h49' (by omega) hlb).mono fun _ _ h=>qT (by decide) h
        ·rw[if_neg (by omega)]
         by_cases hg:Nat.gcd (jf a) (jf b)=1
         ·rw[if_pos hg]
          cases neg with
          | true=>exact(Lb l dg a b w h1 h2 h3 hdl hal hbl hG (hD.le ha) (hD.le hb) hn (by simpa using hz) hd h48' h49' (by omega) (by omega) (QaK hg)).mono fun _ _ h=>Yj h
          | false=>exact(Lc l dg a b w h1 h2 h3 hdl hal hbl hG (hD.le ha) (hD.le hb) hn hd h48' h49' (by omega) (by omega) (QaK hg)).mono fun _ _ h=>Yj h
         ·rw[if_neg hg]
          cases neg with
          | true=>exact(Ln l dg a b w h1 h2 h3 hdl hal hbl hG (hD.le ha) (hD.le hb) hn (by simpa using hz) hd h48' h49' (by omega) (by omega) (Qat hg)).mono fun _ _ h=>qT (by decide) h
          | false=>exact(Lo l dg a b w h1 h2 h3 hdl hal hbl hG (hD.le ha) (hD.le hb) hn hd h48' h49' (by omega) (by omega) (Qat hg)).mono fun _ _ h=>qT (by decide) h
    ·rw[if_pos (.inl hd)]
     cases neg with
     | true=>exact(FW l dg a b w h1 h2 h3 hdl hal hbl hG hn (by simpa using hz) hd).mono fun _ _ h=>qT (by decide) h
     | false=>exact(FY l dg a b w h1 h2 h3 hdl hal hbl hG hn hd).mono fun _ _ h=>qT (by decide) h
 ·rw[if_pos (.inl hn)]
  cases neg with
  | true=>cases f with
   | true=>exact(FZ l dg a b w h1 h2 h3 hdl hal hG hn).mono fun _ _ h=>qT (by decide) h
   | false=>exact(F2 l dg a b w h1 h2 h3 hdl hal hG hn).mono fun _ _ h=>qT (by decide) h
  | false=>cases f with
   | true=>exact(F4 l dg a b w h1 h2 h3 hdl hal hG hn).mono fun _ _ h=>qT (by decide) h
   | false=>exact(F5 l dg a b w h1 h2 h3 hdl hal hG hn).mono fun _ _ h=>qT (by decide) h
theorem Mj (l:List UInt8) (w:World) (hl:l.length<4294967281) (hG:jK w) (hD:qI l.length):
  Calls Tryz.prog 36 #[.string ⟨l.toArray⟩] w (zM (j6 l) w):=
 Lp l _ _ _ _ _ w rfl rfl rfl (Qax (UN l) hl) hG (hD.le (UN l))
def jo (l:List UInt8):Nat:=l.findIdx (· ==47)
theorem K3 (l:List UInt8):jo l≤l.length:=List.findIdx_le_length
theorem OU {l:List UInt8} {k:Nat} {c:UInt8} (hc:l[k]? =some c) (h:c=47) (hk:k≤jo l):jo l=k:=by
 obtain⟨hl,hg⟩:=List.getElem?_eq_some_iff.1 hc;rcases Qae k (jo l) with h1 | h1
 ·have:=List.not_of_lt_findIdx h1
  rw[hg,h] at this;simp at this
 ·omega
theorem OX {l:List UInt8} {k:Nat} {c:UInt8} (hc:l[k]? =some c) (h:c≠47) (hk:k≤jo l):k+1≤jo l:=by
 obtain⟨hl,hg⟩:=List.getElem?_eq_some_iff.1 hc;rcases Qae k (jo l) with h1 | h1
 ·exact h1
 ·have h2:jo l=k:=by omega
  have h3:jo l<l.length:=by omega
  have:=List.findIdx_getElem (p:=(· ==47)) (w:=h3)
  have e:l[List.findIdx (fun x=>x==47) l]'h3=l[k]:=by congr 1
  rw[e,hg] at this;exact absurd (by simpa using this) h
theorem Y0 {c:UInt8} {n:Nat} (hn:n<256) (h:c≠UInt8.ofNat n):((c.toNat:Int)==(n:Int))=false:=by
 have:c.toNat≠n:=fun e=>h (by apply UInt8.toNat_inj.1;rw[e,UInt8.toNat_ofNat'];exact(Qbm hn).symm)
 simpa using (by omega:¬(c.toNat:Int)=n)
theorem Vw {c:UInt8} {n:Nat} (hn:n<256) (h:c=UInt8.ofNat n):((c.toNat:Int)==(n:Int))=true:=by
 subst h;rw[UInt8.toNat_ofNat',Qbm hn];simp
def xX (n:Nat) (w:World) (e:Ending) (w':World):Prop:=e = .returned (.int .i64 (n:Int))∧w=w'
def yE (b:Bool) (w:World) (e:Ending) (w':World):Prop:=e = .returned (.bool b)∧w=w'
theorem Jh (s:ByteArray) (w:World) (hs:s.size≤4611686018427387904):
  Calls Tryz.prog 118 #[.string s] w (xX (jo s.data.toList) w):=by
 go_enter Tryz.func118,Tryz.ntmps118
 go_wp2
 go_loopg [3,4,10,11,12] s.size (fun g i _ _ _ _ wr=>∃pos:Nat,i = .int .i64 pos∧pos+g=s.size∧Hid (pos≤jo s.data.toList)∧wr=w)
 case atStart=>exact⟨0,rfl,by omega,hid (Nat.zero_le _),rfl⟩
 case round=>
  obtain⟨pos,rfl,hp,hd,rfl⟩:=hrel
  cases gk with
  | zero=>
   have hb:¬((pos:Int)<(s.size:Int)):=by omega
   have HE:Hid (jo s.data.toList=s.size):=hid (by
    have h1:=K3 s.data.toList
    have h2:s.data.toList.length=s.size:=by simp
    have:=hd.out;omega)
   clear hd
   go_wp2
   go_ret;exact⟨by rw[HE.out];rfl,rfl⟩
  | succ gh=>
   have hlt:pos<s.size:=by omega
   have hge:=xI s pos hlt;by_cases hc:s[pos]=47
   ·have hb3:(((s[pos]).toNat:Int)==47)=true:=Vw (n:=47) (by decide) hc
    have HE:=hid (OU hge hc hd.out);clear hd hc hge
    go_wp2
    go_ret;exact⟨by rw[HE.out];rfl,rfl⟩
   ·have hb3:(((s[pos]).toNat:Int)==47)=false:=Y0 (n:=47) (by decide) hc
    have HE:=hid (OX hge hc hd.out);clear hd hc hge
    go_wp2
    go_roundg gh
    case rel=>exact⟨pos+1,by go_num,by omega,HE,rfl⟩
    case measure=>omega
def Qn (l:List UInt8) (k:Nat):Prop:=j7 (l.take k)
theorem Qn.step {l:List UInt8} {k:Nat} {c:UInt8} (h:Qn l k) (hc:l[k]? =some c) (hd:48≤c.toNat∧c.toNat≤57):Qn l (k+1):=by
 intro x hx;rw[Qa5,hc] at hx;rcases List.mem_append.1 hx with h1 | h1
 ·exact h x h1
 ·have:x=c:=by simpa using h1
  subst this;exact hd
theorem RF (s:ByteArray) (w:World) (hs:s.size≤4611686018427387904):
  Calls Tryz.prog 153 #[.string s] w (yE (decide (j7 s.data.toList)) w):=by
 go_enter Tryz.func153,Tryz.ntmps153
 go_wp2
 go_loopg [3] s.size (fun g i wr=>∃pos:Nat,i = .int .i64 pos∧pos+g=s.size∧Hid (Qn s.data.toList pos)∧wr=w)
 case atStart=>exact⟨0,rfl,by omega,hid (fun c hc=>by simp at hc),rfl⟩
 case round=>
  obtain⟨pos,rfl,hp,hd,rfl⟩:=hrel
  cases gk with
  | zero=>
   have hb:¬((pos:Int)<(s.size:Int)):=by omega
   have HE:Hid (decide (j7 s.data.toList)=true):=hid (by
    have h1:=hd.out;unfold Qn at h1;rw[Qad (by simp;omega)] at h1
    exact QaK h1)
   clear hd
   go_wp2
   go_ret;exact⟨by rw[HE.out];rfl,rfl⟩
  | succ gh=>
   have hlt:pos<s.size:=by omega
   have hge:=xI s pos hlt;by_cases h1:48≤(s[pos]).toNat
   ·by_cases h2:(s[pos]).toNat≤57
    ·have hb1:decide (((s[pos]).toNat:Int)<48)=false:=by simp;omega
     have hb2:decide ((57:Int)<((s[pos]).toNat:Int))=false:=by simp;omega
     have HE:=hid (hd.out.step hge ⟨h1,h2⟩);clear hd h1 h2 hge
     go_wp2
     go_roundg gh
     case rel=>exact⟨pos+1,by go_num,by omega,HE,rfl⟩
     case measure=>omega
    ·have hb1:decide (((s[pos]).toNat:Int)<48)=false:=by simp;omega
     have hb2:decide ((57:Int)<((s[pos]).toNat:Int))=true:=by simp;omega
     have HE:Hid (decide (j7 s.data.toList)=false):=hid (Qat fun h=>by have:=h _ (Qab hge);omega);clear hd h1 h2 hge
     go_wp2
     go_ret;exact⟨by rw[HE.out];rfl,rfl⟩
   ·have hb1:decide (((s[pos]).toNat:Int)<48)=true:=by simp;omega
    have HE:Hid (decide (j7 s.data.toList)=false):=hid (Qat fun h=>by have:=h _ (Qab hge);omega);clear hd h1 hge
    go_wp2
    go_ret;exact⟨by rw[HE.out];rfl,rfl⟩
theorem Dt (x n k j:Nat) (hk:k≤n) (hj:n-k≤j) (hjn:j<n):(xy x n k)[j]? =some ((xh x (n-1-j)%(n-j):Nat):Int):=by
 induction k with
 | zero=>omega
 | succ k ih=>
  unfold xy;by_cases he:n-1-k=j
  ·subst he
   rw[QaS (by rw[KG];omega)];rw[show n-1-(n-1-k)=k by omega,show n-(n-1-k)=k+1 by omega]
  ·rw[Qbq he]
   exact ih (by omega) (by omega)
theorem Du (x n:Nat):YP (xy x n n):=by
 intro k hk;rw[KG] at hk ⊢;rw[Dt x n n k (Nat.le_refl _) (by omega) hk];have:=QaI (xh x (n-1-k)) (show 0<n-k by omega);simp only[Qbl];omega
def xT (n:Int) (l:List UInt8):Int:=
 if ¬(0≤n∧n≤256) then 3 else if (j6 l).1≠0 then (j6 l).1
 else if (j6 l).2.num<0∨(j6 l).2.den≠1 then 3 else if xh (j6 l).2.num.natAbs n.toNat≠0 then 3 else 0
def EH (n:Int) (l:List UInt8) (w:World) (e:Ending) (w':World):Prop:=
 Below w.heap.size w w'∧((xT n l=0 ∧ ∃g,e = .returned (.tuple #[.slice (some ⟨g,0,none⟩) n.toNat n.toNat,.int .i64 0])∧w.heap.size≤g∧ja w' g 3 (je (kX (xy (j6 l).2.num.natAbs n.toNat n.toNat) n.toNat).1)) ∨
  (xT n l≠0∧e = .returned (.tuple #[.slice none 0 0,.int .i64 (xT n l)])))
theorem Sf (n:Int) (l:List UInt8) (w:World) (hl:l.length<4294967281) (hG:jK w) (hD:qI l.length) (hF:jp (j6 l).2.num.natAbs):
  Calls Tryz.prog 23 #[.int .i64 n,.string ⟨l.toArray⟩] w (EH n l w):=by
 have RD:=hid (Mj l w hl hG hD);have HF:=hid hF;clear hl hG hD hF;by_cases hn:0≤n∧n≤256
 ·obtain⟨m,rfl⟩:=Qa2 hn.1
  have hm:m≤256:=by omega
  have HW:Hid (qw (m:Int) 0 256=0):=hid (by unfold qw;rw[if_pos hn])
  have HC:Hid (xT (m:Int) l=if (j6 l).1≠0 then (j6 l).1 else if (j6 l).2.num<0∨(j6 l).2.den≠1 then 3 else if xh (j6 l).2.num.natAbs m≠0 then 3 else 0):=hid (by
   unfold xT;rw[if_neg (by simpa using hn)];rfl)
  have HT:Hid ((m:Int).toNat=m):=hid (by simp);clear hn;unfold EH;rw[HT.out];generalize hrr:j6 l=rr at *;obtain⟨code,q⟩:=rr;dsimp only at HC HF ⊢;clear hrr;go_enter Tryz.func23,Tryz.ntmps23
  go_wp2_with (go_at_call 52;refine(YF _ _ _ _).mono ?_;rintro e w' ⟨rfl,rfl⟩;rw[HW.out])
  by_cases hc:code=0
  ·have RD2:Hid (Calls Tryz.prog 36 #[.string ⟨l.toArray⟩] w (JH q w)):=hid (RD.out.mono fun e w' h=>by unfold zM at h;rw[if_pos hc] at h;exact h)
   have HC2:Hid (xT (m:Int) l=if q.num<0∨q.den≠1 then 3 else if xh q.num.natAbs m≠0 then 3 else 0):=hid (by rw[HC.out,if_neg (by simpa using hc)]);clear hc RD HC;refine RD2.out.mono ?_;clear RD2;rintro e w1 ⟨v,rfl,hv,hB1⟩;obtain⟨nv,dv,rfl,hnv,hdv⟩:=hv;obtain⟨A1,n1,k1,rfl,_⟩:=hnv.size_;obtain⟨A2,n2,k2,rfl,_⟩:=hdv.size_;have Hn:=hid hnv;have Hd:=hid hdv;clear hnv hdv;have hs1:=hB1.size;by_cases hneg:q.num<0
   ·have HR:Hid (xT (m:Int) l=3):=hid (by rw[HC2.out,if_pos (.inl hneg)])
    have hde:decide (q.num<0)=true:=by simpa using hneg
    rw[hde];clear hneg hde
    go_wp2
    go_ret2;exact⟨hB1.alloc hs1 _,.inr ⟨by rw[HR.out];decide,by rw[HR.out];rfl⟩⟩
   ·have hde:decide (q.num<0)=false:=by simpa using hneg
    have Hneg:=hid hneg;rw[hde];clear hneg hde;have hal:Below w1.heap.size w1 (w1.alloc (.cells #[.bool false,.slice A1 n1 k1,.slice A2 n2 k2] 69)):=(Below.refl _ _).alloc (Nat.le_refl _) _;by_cases hden:q.den=1
    ·have Hden:=hid (QaK hden)
     have HC3:Hid (xT (m:Int) l=if xh q.num.natAbs m≠0 then 3 else 0):=hid (by rw[HC2.out,if_neg (by rintro (h | h);exact Hneg.out h;exact h hden)]);clear hden HC2
     go_wp2_with (go_at_call 58;refine(qf _ _ _ (Hd.out.below hal)).mono ?_;rintro e w' ⟨rfl,rfl⟩;rw[Hden.out])
     refine(Dz _ _ m _ (Hn.out.below hal) HF.out hm).mono ?_;rintro e w2 ⟨u,r,rfl,hu,hr,hB2⟩;have HB2:=hid ((hB1.alloc hs1 (.cells #[.bool false,.slice A1 n1 k1,.slice A2 n2 k2] 69)).trans (hB2.mono (by simp;omega)));have Hu:=hid hu;by_cases hrest:xh q.num.natAbs m=0
     ·have HC4:Hid (xT (m:Int) l=0):=hid (by rw[HC3.out,if_neg (by simpa using hrest)])
      rw[hrest] at hr;obtain⟨A3,k3,rfl⟩:=Nt.zero_len hr;have PK:=hid (Fk u _ w2 hu (Du _ _) (by rw[KG];exact hm));clear hu hr hB2 hrest HC3
      go_wp2_with fail
      refine PK.out.mono ?_;clear PK;rintro e w3 ⟨g,rfl,hg,hO,hB3⟩;rw[KG] at hO ⊢;have HO:=hid hO;have HB3:=hid (HB2.out.trans (hB3.mono HB2.out.size));have HG:=hid (Qap HB2.out.size hg);clear hO hB3 hg
      go_wp2
      go_ret2;exact⟨HB3.out,.inl ⟨HC4.out,g,rfl,HG.out,HO.out⟩⟩
     ·have HC4:Hid (xT (m:Int) l=3):=hid (by rw[HC3.out,if_pos hrest])
      obtain⟨A3,n3,k3,rfl,hn3,_⟩:=hr.pos_len hrest;clear hu hr hB2 hrest HC3
      go_wp2
      go_ret2;exact⟨HB2.out,.inr ⟨by rw[HC4.out];decide,by rw[HC4.out];rfl⟩⟩
    ·have Hden:=hid (Qat hden)
     have HR:Hid (xT (m:Int) l=3):=hid (by rw[HC2.out,if_pos (.inr hden)]);clear hden HC2
     go_wp2_with (go_at_call 58;refine(qf _ _ _ (Hd.out.below hal)).mono ?_;rintro e w' ⟨rfl,rfl⟩;rw[Hden.out])
     go_ret2;exact⟨hB1.alloc hs1 _,.inr ⟨by rw[HR.out];decide,by rw[HR.out];rfl⟩⟩
  ·have RD2:Hid (Calls Tryz.prog 36 #[.string ⟨l.toArray⟩] w (ql code w)):=hid (RD.out.mono fun e w' h=>by unfold zM at h;rw[if_neg hc] at h;exact h)
   have HC2:Hid (xT (m:Int) l=code):=hid (by rw[HC.out,if_pos hc])
   have hcb:(code != 0)=true:=by simpa using hc
   have Hc:=hid hc;clear hc RD HC;refine RD2.out.mono ?_;clear RD2;rintro e w1 ⟨rfl,hB1⟩;unfold kd;have hs1:=hB1.size
   go_wp2
   go_ret2;exact⟨hB1.alloc hs1 _,.inr ⟨by rw[HC2.out];exact Hc.out,by rw[HC2.out];rfl⟩⟩
 ·have HC:Hid (xT n l=3):=hid (by unfold xT;rw[if_pos hn])
  have HW:Hid (qw n 0 256=3):=hid (by unfold qw;rw[if_neg hn]);clear hn RD HF;go_enter Tryz.func23,Tryz.ntmps23
  go_wp2_with (go_at_call 52;refine(YF _ _ _ _).mono ?_;rintro e w' ⟨rfl,rfl⟩;rw[HW.out])
  go_ret2;exact⟨Below.refl _ _,.inr ⟨by rw[HC.out];decide,by rw[HC.out];rfl⟩⟩
abbrev El:=Bool×Value×Value
def qk (e:El):Value:= .agg #[.bool e.1,e.2.1,e.2.2]
def J1 (e:El):List Value:=[.bool e.1,e.2.1,e.2.2]
def jA:List El→List Value
 | []=>[]
 | e::t=> .bool e.1::e.2.1::e.2.2::jA t
theorem qP (es:List El):(jA es).length=es.length*3:=by
 induction es with
 | nil=>rfl
 | cons e t ih=>simp only[jA,QaR,ih];omega
theorem XJ (es:List El) (j:Nat) (e:El) (h:es[j]? =some e):(jA es)[j*3]? =some (.bool e.1)∧(jA es)[j*3+1]? =some e.2.1∧(jA es)[j*3+2]? =some e.2.2:=by
 induction es generalizing j with
 | nil=>cases h
 | cons a t ih=>
  cases j with
  | zero=>simp at h;subst h;simp[jA]
  | succ j=>
   simp at h;have:=ih j h;rw[show (j+1)*3=j*3+1+1+1 by omega];simpa [jA] using this
theorem VZ (es:List El) (j:Nat) (e:El) (h:j<es.length):(((jA es).set (j*3) (.bool e.1)).set (j*3+1) e.2.1).set (j*3+2) e.2.2=jA (es.set j e):=by
 induction es generalizing j with
 | nil=>simp at h
 | cons a t ih=>
  cases j with
  | zero=>simp[jA]
  | succ j=>
   simp at h;rw[show (j+1)*3=j*3+1+1+1 by omega];simp only[jA,Qav];rw[ih j h]
theorem De (es:List El) (h:∀e∈es,ko e.2.1∧ko e.2.2):∀c∈jA es,ko c:=by
 induction es with
 | nil=>intro c hc;cases hc
 | cons a t ih=>
  intro c hc;simp only[jA,QbC] at hc;have ha:=h a (by simp);rcases hc with rfl | rfl | rfl | hc
  ·exact ju _
  ·exact ha.1
  ·exact ha.2
  ·exact ih (fun e he=>h e (by simp[he])) c hc
structure jq (w:World) (b:Nat) (es:List El) (qs:List Rat):Prop where
 own:ja w b 69 (jA es)
 len:qs.length≤es.length
 noi:∀e∈es,ko e.2.1∧ko e.2.2
 num:∀(i:Nat) (e:El) (q:Rat),es[i]? =some e→qs[i]? =some q→Rt w (qk e) q
section
variable {w w':World} {b:Nat} {es:List El} {qs:List Rat}
theorem jq.noInt (h:jq w b es qs):∀c∈jA es,ko c:=De es h.noi
theorem Rt.elNo {e:El} {q:Rat} (h:Rt w (qk e) q):ko e.2.1∧ko e.2.2:=by
 obtain⟨nv,dv,hv,h1,h2⟩:=h
 have e2:e.2.1=nv∧e.2.2=dv:=by simp[qk] at hv;exact hv.2
 rw[e2.1,e2.2];exact⟨h1.noInt,h2.noInt⟩
theorem jq.below (h:jq w b es qs) (hb:Below w.heap.size w w'):jq w' b es qs:=
 ⟨h.own.below hb h.own.lt,h.len,h.noi,fun i e q he hq=>(h.num i e q he hq).below hb⟩
theorem Nt.stay {g:Nat} {t:TypeId} {cs:List Value} {v:Value} {x:Nat} (h:Nt w v x) (hO:ja w g t cs) (hc:∀c∈cs,ko c) (hb:jk g w w'):Nt w' v x:=by
 obtain⟨ws,h1,h2,h3,A,n,c,hv,h4,h5,h6,h7⟩:=h;refine⟨ws,h1,h2,h3,A,n,c,hv,h4,h5,h6,fun hn=> ?_⟩;obtain⟨b,off,hA,hlt,hcell⟩:=h7 hn;refine⟨b,off,hA,Qac hlt hb.size,fun j u hu=> ?_⟩;have hj:=hcell j u hu
 have hne:b≠g:=by
  rintro rfl;rw[hO.cell] at hj;obtain⟨y,_,hy⟩:=List.mem_map.1 (Qab hu);exact hc u (Qab hj) _ _ hy.symm
 exact(World.cell?_of_block (a:=⟨b,off+j,none⟩) (hb.block b hlt hne)).trans hj
theorem Rt.stay {g:Nat} {t:TypeId} {cs:List Value} {v:Value} {q:Rat} (h:Rt w v q) (hO:ja w g t cs) (hc:∀c∈cs,ko c) (hb:jk g w w'):Rt w' v q:=by
 obtain⟨nv,dv,hv,h1,h2⟩:=h;exact⟨nv,dv,hv,h1.stay hO hc hb,h2.stay hO hc hb⟩
theorem jq.stay {g:Nat} {t:TypeId} {cs:List Value} (h:jq w b es qs) (hO:ja w g t cs) (hc:∀c∈cs,ko c) (hb:jk g w w') (hg:b≠g):jq w' b es qs:=
 ⟨h.own.but hb hg,h.len,h.noi,fun i e q he hq=>(h.num i e q he hq).stay hO hc hb⟩
theorem jk.set3 (w:World) (g i:Nat) (a b c:Value):jk g w (((w.setCell ⟨g,i,none⟩ a).setCell ⟨g,i+1,none⟩ b).setCell ⟨g,i+2,none⟩ c):=
 (((jk.refl g w).setCell ⟨g,i,none⟩ rfl a).setCell ⟨g,i+1,none⟩ rfl b).setCell ⟨g,i+2,none⟩ rfl c
theorem jq.put (h:jq w b es qs) {j:Nat} {e:El} {q:Rat} (hj:j<qs.length) (hq:Rt w (qk e) q):
  jq (((w.setCell ⟨b,j*3,none⟩ (.bool e.1)).setCell ⟨b,j*3+1,none⟩ e.2.1).setCell ⟨b,j*3+2,none⟩ e.2.2) b (es.set j e) (qs.set j q):=by
 have hb:=jk.set3 w b (j*3) (.bool e.1) e.2.1 e.2.2;have hn:=h.noInt;have hjl:j<es.length:=Qac hj h.len;refine⟨?_,by simpa using h.len,fun a ha=> ?_,fun i a r hi hr=> ?_⟩
 ·rw[←VZ es j e hjl]
  exact((h.own.put _ _).put _ _).put _ _
 ·rcases QaN ha with ha | rfl
  ·exact h.noi a ha
  ·exact hq.elNo
 ·by_cases hij:j=i
  ·subst hij
   rw[QaS hjl] at hi;rw[QaS hj] at hr;obtain rfl:=QaE hi;obtain rfl:=QaE hr;exact hq.stay h.own hn hb
  ·rw[Qbq hij] at hi hr
   exact(h.num i a r hi hr).stay h.own hn hb
theorem jq.at_ (h:jq w b es qs) {j:Nat} (hj:j<qs.length):∃(e:El) (A1:Option Addr) (n1 c1:Nat) (A2:Option Addr) (n2 c2:Nat),es[j]? =some e∧e=(e.1,.slice A1 n1 c1,.slice A2 n2 c2)∧Rt w (qk e) (qs[j]?.getD 0) ∧
  w.cell? ⟨b,j*3,none⟩=some (.bool e.1)∧w.cell? ⟨b,j*3+1,none⟩=some (.slice A1 n1 c1)∧w.cell? ⟨b,j*3+2,none⟩=some (.slice A2 n2 c2) ∧
  w.frozen? ⟨b,j*3,none⟩=false∧w.frozen? ⟨b,j*3+1,none⟩=false∧w.frozen? ⟨b,j*3+2,none⟩=false:=by
 have hl:j<es.length:=Qac hj h.len
 obtain⟨e0,he⟩:∃e0,es[j]? =some e0:=⟨es[j],Qaa hl⟩
 have hr:=h.num j _ _ he (Qaa hj);obtain⟨s,A1,n1,c1,A2,n2,c2,hs⟩:=hr.shape;obtain⟨s',a',b'⟩:=e0;simp[qk] at hs;obtain⟨rfl,rfl,rfl⟩:=hs;obtain⟨h1,h2,h3⟩:=XJ es j _ he;refine⟨_,A1,n1,c1,A2,n2,c2,he,rfl,?_,(h.own.cell _).trans h1,(h.own.cell _).trans h2,(h.own.cell _).trans h3,h.own.free _,h.own.free _,h.own.free _⟩;rw[Qaa hj];exact hr
end
end Go.Proofs.YteagkgagdelklaaGreatDoor
namespace Go.Proofs.YteagkgagdelklaaGreatDoor
open Go.Lib
theorem QG {d:Nat} (h:d<10):(UInt8.ofNat (48+d)).toNat=48+d:=by rw[UInt8.toNat_ofNat'];omega
theorem xr (n:Nat):j7 (decDigits n):=by
 induction n using Nat.strongRecOn with
 | _ n ih=>
  by_cases h:n<10
  ·rw[decDigits_one h]
   intro c hc;obtain rfl:=List.mem_singleton.1 hc;rw[QG h];omega
  ·rw[JY (by omega)]
   intro c hc;rcases List.mem_append.1 hc with hc | hc
   ·exact ih (n/10) (by omega) c hc
   ·obtain rfl:=List.mem_singleton.1 hc
    rw[QG (QaI _ (by decide))];omega
theorem Jy (n:Nat):jf (decDigits n)=n:=by
 induction n using Nat.strongRecOn with
 | _ n ih=>
  by_cases h:n<10
  ·rw[decDigits_one h,jf,z7,zC,QG h];omega
  ·rw[JY (by omega),JZ,ih (n/10) (by omega),jf,z7,zC,QG (QaI _ (by decide))]
   simp only[QaZ,Qbc];omega
theorem Nx (n:Nat):decDigits n≠[]:=by
 by_cases h:n<10
 ·rw[decDigits_one h];simp
 ·rw[JY (by omega)];simp
theorem CG {l:List UInt8} {c:UInt8} (h:jF (l++[c])) (hl:l≠[]):jF l∧l≠[48]:=by
 obtain⟨h1,h2⟩:=h
 have ha:j7 l:=fun x hx=>h1 x (List.mem_append_left _ hx)
 rcases h2 with h2 | ⟨_,h2⟩
 ·have:=congrArg List.length h2
  simp at this;exact absurd (by simpa using this) hl
 ·cases l with
  | nil=>exact absurd rfl hl
  | cons a t=>
   simp at h2;exact⟨⟨ha,.inr ⟨by simp,by simpa using h2⟩⟩,by intro e;injection e with e1 e2;exact h2 e1⟩
theorem CF:∀(k:Nat) (l:List UInt8),l.length=k→jF l→l=decDigits (jf l):=by
 intro k
 induction k with
 | zero=>
  intro l hl h;have:=List.length_eq_zero_iff.1 hl;subst this;rcases h.2 with h | h
  ·cases h
  ·exact absurd rfl h.1
 | succ k ih=>
  intro l hl h
  have hne:l≠[]:=by intro e;rw[e] at hl;simp at hl
  obtain⟨p,c,rfl⟩:∃p c,l=p++[c]:=⟨l.dropLast,l.getLast hne,(List.dropLast_concat_getLast hne).symm⟩
  have hc:=h.1 c (by simp)
  obtain⟨d,hd⟩:∃d,c.toNat=48+d:=⟨c.toNat-48,by omega⟩
  have hcd:c=UInt8.ofNat (48+d):=by apply UInt8.toNat_inj.1;rw[QG (by omega),hd]
  have hv:jf [c]=d:=by rw[jf,z7,zC];omega
  by_cases hp:p=[]
  ·subst hp
   rw[Qbe,hv,decDigits_one (by omega),hcd]
  ·obtain⟨h3,h4⟩:=CG h hp
   have h5:=ih p (by simpa using hl) h3
   have hpos:0<jf p:=by
    rcases QaA (jf p) with h6 | h6
    ·rw[h6] at h5;exact absurd (h5.trans (decDigits_one (by decide))) h4
    ·exact h6
   rw[JZ,hv];simp only[QaZ,Qbc];rw[JY (by omega),show (jf p*10+d)/10=jf p from by omega,show (jf p*10+d)%10=d from by omega,←h5,hcd]
theorem QV {l:List UInt8} (h:j7 l):jo l=l.length:=by
 unfold jo
 refine List.findIdx_eq_length.2 fun x hx=> ?_
 have:=h x hx;simp only[beq_eq_false_iff_ne];rintro rfl;exact absurd this.1 (by decide)
theorem Yq {l r:List UInt8} (h:j7 l):jo (l++47::r)=l.length:=by
 have:=QV h;unfold jo at this ⊢;rw[List.findIdx_append,this,if_neg (by omega)];rw[List.findIdx_cons];simp
end Go.Proofs.YteagkgagdelklaaGreatDoor
namespace Go.Proofs.YteagkgagdelklaaGreatDoor
open Go.RowKit Go.Lib
theorem Tn {s:ByteArray} (h:s.size=0):s.data.toList=[]:=List.length_eq_zero_iff.1 (by simpa using h)
theorem VO (s:ByteArray) (w:World) (hs:s.size≤4611686018427387904):
  Calls Tryz.prog 119 #[.string s] w (yE (decide (jF s.data.toList)) w):=by
 have DG:=hid (RF s w hs);by_cases h0:s.size=0
 ·have hb0:((s.size:Int)==0)=true:=by rw[h0];rfl
  have HE:Hid (decide (jF s.data.toList)=false):=hid (by rw[Tn h0];decide);clear h0;go_enter Tryz.func119,Tryz.ntmps119
  go_wp2
  go_ret;exact⟨by rw[HE.out];rfl,rfl⟩
 ·have hb0:((s.size:Int)==0)=false:=by simpa using h0
  have h00:0<s.size:=Nat.pos_of_ne_zero h0;have hge:=xI s 0 h00
  have hne:s.data.toList≠[]:=fun e=>by rw[e] at hge;simp at hge
  have hhd:s.data.toList.head? =some s[0]:=by rw[List.head?_eq_getElem?];exact hge
  have hll:s.data.toList.length=s.size:=by simp
  by_cases h1:1<s.size
  ·have h1':(1:Int)<(s.size:Int):=by omega
   by_cases hc:s[0]=48
   ·have hb3:(((s[0]).toNat:Int)==48)=true:=Vw (n:=48) (by decide) hc
    have HE:Hid (decide (jF s.data.toList)=false):=hid (Qat (by
     rintro ⟨_,h | h⟩
     ·rw[h] at hll;simp at hll;omega
     ·exact h.2 (by rw[hhd,hc])))
    clear h0 h1 hge hne hhd hll hc DG;go_enter Tryz.func119,Tryz.ntmps119
    go_wp2
    go_ret;exact⟨by rw[HE.out];rfl,rfl⟩
   ·have hb3:(((s[0]).toNat:Int)==48)=false:=Y0 (n:=48) (by decide) hc
    have HE:Hid (decide (jF s.data.toList)=decide (j7 s.data.toList)):=hid (by
     congr 1
     apply propext
     exact⟨fun h=>h.1,fun h=>⟨h,.inr ⟨hne,by rw[hhd];intro e;exact hc (QaE e)⟩⟩⟩)
    clear h0 h1 hge hne hhd hll hc;go_enter Tryz.func119,Tryz.ntmps119
    go_wp2_with fail
    refine DG.out.mono ?_;rintro e w1 ⟨rfl,rfl⟩
    go_wp2
    go_ret;exact⟨by rw[HE.out];rfl,rfl⟩
  ·have h1':decide ((1:Int)<(s.size:Int))=false:=by simp;omega
   have HE:Hid (decide (jF s.data.toList)=decide (j7 s.data.toList)):=hid (by
     congr 1
     apply propext;refine⟨fun h=>h.1,fun h=>⟨h,?_⟩⟩;by_cases hc:s[0]=48
     ·refine .inl ?_
      obtain⟨a,ha⟩:=List.length_eq_one_iff.1 (by omega:s.data.toList.length=1);rw[ha] at hhd ⊢;rw[show a=48 from by rw[←hc];exact QaE hhd]
     ·exact .inr ⟨hne,by rw[hhd];intro e;exact hc (QaE e)⟩)
   clear h0 h1 hge hne hhd hll;go_enter Tryz.func119,Tryz.ntmps119
   go_wp2_with fail
   refine DG.out.mono ?_;rintro e w1 ⟨rfl,rfl⟩
   go_wp2
   go_ret;exact⟨by rw[HE.out];rfl,rfl⟩
theorem Nv {l:List UInt8} {k:Nat} {c:UInt8} (hc:l[k]? =some c):jf (l.take (k+1))=10*jf (l.take k)+(c.toNat-48):=by
 rw[Qa5,hc,Option.toList_some,JZ]
 have:jf [c]=c.toNat-48:=by rw[jf,z7,zC];omega
 rw[this];simp;omega
theorem Nw {l:List UInt8} (h:j7 l) (k n:Nat) (hk:k≤n):jf (l.take k)<10^n:=by
 have:=xf (JW h k);refine Qac this (Qai (by decide) ?_);rw[Qak];omega
theorem Q5 (s:ByteArray) (w:World) (hs:s.size≤18) (hd:j7 s.data.toList):
  Calls Tryz.prog 170 #[.string s] w (xX (jf s.data.toList) w):=by
 have HD:=hid hd;clear hd;go_enter Tryz.func170,Tryz.ntmps170
 go_wp2
 go_loopg [3,4] s.size (fun g n i wr=>∃(pos x:Nat),i = .int .i64 pos∧n = .int .i64 (x:Int)∧pos+g=s.size∧Hid (x=jf (s.data.toList.take pos))∧wr=w)
 case atStart=>exact⟨0,0,rfl,rfl,by omega,hid rfl,rfl⟩
 case round=>
  obtain⟨pos,x,rfl,rfl,hp,hd,rfl⟩:=hrel
  cases gk with
  | zero=>
   have hb:¬((pos:Int)<(s.size:Int)):=by omega
   have HE:Hid (jf s.data.toList=x):=hid (by
    have h1:=hd.out;rw[Qad (by simp;omega)] at h1
    exact h1.symm)
   clear hd
   go_wp2
   go_ret;exact⟨by rw[HE.out];rfl,rfl⟩
  | succ gh=>
   have hlt:pos<s.size:=by omega
   have hge:=xI s pos hlt
   have hx:x<100000000000000000:=by
    have:=Nw HD.out pos 17 (by omega);rw[←hd.out] at this;exact this
   have hcc:=HD.out _ (Qab hge);have HE:Hid (10*x+((s[pos]).toNat-48)=jf (s.data.toList.take (pos+1))):=hid (by rw[Nv hge,hd.out]);clear hd hge
   obtain⟨d,hdd⟩:∃d,(s[pos]).toNat=d+48:=⟨(s[pos]).toNat-48,by omega⟩
   have HE2:Hid (10*x+d=jf (s.data.toList.take (pos+1))):=hid (by rw[←HE.out,hdd];omega)
   have hd9:d≤9:=by omega
   clear HE hcc
   go_wp2
   go_roundg gh
   case rel=>exact⟨pos+1,10*x+d,by go_num,by go_num,by omega,HE2,rfl⟩
   case measure=>omega
