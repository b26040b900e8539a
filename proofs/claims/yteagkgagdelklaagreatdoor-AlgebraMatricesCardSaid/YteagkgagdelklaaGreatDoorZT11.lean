/- Contracts: the negative, the sign and the quotient of rational numbers; integers as rational numbers. -/
import Derived.Test.YteagkgagdelklaaGreatDoorZT08
import Derived.Test.YteagkgagdelklaaGreatDoorZT09
set_option maxRecDepth 100000
set_option maxHeartbeats 4000000
namespace Go.Proofs.YteagkgagdelklaaGreatDoor
open Go.RowKit Go.Lib
theorem Cp (neg:Bool) (n d:Nat): -j9 neg n d=j9 ((!neg)&&decide (0<n)) n d:=by
 rw[zI,zI,Rat.neg_mkRat]
 congr 1
 by_cases h:n=0
 ·subst h;cases neg <;> simp[sg]
 ·rw[QaK (Nat.pos_of_ne_zero h)];cases neg <;> simp[sg]
theorem AM (neg:Bool) (n d:Nat):(j9 neg n d)⁻¹=j9 neg d n:=by
 rw[zI,zI,←Rat.divInt_ofNat,←Rat.divInt_ofNat,Rat.inv_divInt];cases neg
 ·rfl
 ·show Rat.divInt (d:Int) (-(n:Int))=Rat.divInt (-(d:Int)) n
  rw[Rat.divInt_neg']
theorem Tu (w:World) (a b c:Value):∃W0,W0=(w.alloc (.cells #[a,b,c] 69)).alloc (.cells #[.bool false,.slice none 0 0,.slice none 0 0] 69) ∧
  ja W0 w.heap.size 69 [a,b,c]∧ja W0 (w.heap.size+1) 69 [.bool false,.slice none 0 0,.slice none 0 0]∧Below w.heap.size w W0∧w.heap.size+1<W0.heap.size:=by
 refine⟨_,rfl,(ja.make w _ [a,b,c]).alloc _,?_,((Below.refl _ _).alloc (Nat.le_refl _) _).alloc (by simp) _,by simp⟩;have:=ja.make (w.alloc (.cells #[a,b,c] 69)) 69 [.bool false,.slice none 0 0,.slice none 0 0];simp only[World.size_alloc] at this;exact this
theorem Vt (w:World) (a b c a' b' c':Value):∃W0,W0=((w.alloc (.cells #[a,b,c] 69)).alloc (.cells #[a',b',c'] 69)).alloc (.cells #[.bool false,.slice none 0 0,.slice none 0 0] 69) ∧
  ja W0 w.heap.size 69 [a,b,c]∧ja W0 (w.heap.size+1) 69 [a',b',c']∧ja W0 (w.heap.size+1+1) 69 [.bool false,.slice none 0 0,.slice none 0 0]∧Below w.heap.size w W0∧w.heap.size+1+1<W0.heap.size:=by
 refine⟨_,rfl,((ja.make w _ [a,b,c]).alloc _).alloc _,?_,?_,(((Below.refl _ _).alloc (Nat.le_refl _) _).alloc (by simp) _).alloc (by simp;omega) _,by simp⟩
 ·have:=ja.make (w.alloc (.cells #[a,b,c] 69)) 69 [a',b',c']
  simp only[World.size_alloc] at this;exact this.alloc _
 ·have:=ja.make ((w.alloc (.cells #[a,b,c] 69)).alloc (.cells #[a',b',c'] 69)) 69 [.bool false,.slice none 0 0,.slice none 0 0]
  simp only[World.size_alloc] at this;exact this
theorem Cq (v:Value) (q:Rat) (w:World) (h:Rt w v q):Calls Tryz.prog 117 #[v] w (qR (-q) w):=by
 obtain⟨neg,nv,dv,n,d,rfl,h1,h2,hd,hc,hnn,hq,z1,z2,z3⟩:=h.open_;clear z1 z2 z3;obtain⟨W0,hW0,hP,hR,hB0,hs0⟩:=Tu w (.bool neg) nv dv
 have key:∀ng:Bool,ng=((!neg)&&decide (0<n))→Hid (Rt (((W0.setCell ⟨w.heap.size+1,0,none⟩ (.bool ng)).setCell ⟨w.heap.size+1,1,none⟩ nv).setCell ⟨w.heap.size+1,2,none⟩ dv) (.agg #[.bool ng,nv,dv]) (-q)):=by
  intro ng hng;apply hid;rw[hq,Cp,←hng]
  refine Rt.mk_ hd hc ?_ ((h1.below hB0).put3 hR (ju _) (jr _ _ _) (jr _ _ _) (ju _) h1.noInt) ((h2.below hB0).put3 hR (ju _) (jr _ _ _) (jr _ _ _) (ju _) h1.noInt)
  intro e hz;rw[hng,hz] at e;simp at e
 have Key:=hid key;obtain⟨A2,k2,c2,hdv,_⟩:=h2.size_;obtain⟨c0,c1,c2',_,_,_⟩:=hP.three;obtain⟨e0,e1,e2,k0,k1,k2'⟩:=hR.three;clear key hd hc hnn hq h hP hR;by_cases hz:n=0
 ·obtain⟨A,cc,hnv⟩:=Nt.zero_len (hz ▸ h1)
  rw[hz] at Key;clear h1 h2 hz;subst hnv hdv;have KR:=Key.out false (by cases neg <;> rfl);clear Key;cases neg
  all_goals
   go_enter Tryz.func117,Tryz.ntmps117
   go_upto_region 1 with fail
   rw[←hW0];clear hW0
   go_wp2
   exact bodyPost_ret (v:= .agg #[.bool false,.slice A 0 cc,.slice A2 k2 c2]) (by simp[results,Tryz.results117,go_sem,e0,e1,e2]) rfl ⟨_,rfl,KR.out,((hB0.setCell (by simp) _).setCell (by simp) _).setCell (by simp) _⟩
 ·obtain⟨A,kk,cc,hnv,hkk,hkm⟩:=h1.pos_len hz
  rw[QaK (Nat.pos_of_ne_zero hz)] at Key;clear h1 h2 hz;subst hnv hdv;cases neg
  ·have KR:=Key.out true rfl
   go_enter Tryz.func117,Tryz.ntmps117
   go_upto_region 1 with fail
   rw[←hW0];clear hW0
   go_wp2
   exact bodyPost_ret (v:= .agg #[.bool true,.slice A kk cc,.slice A2 k2 c2]) (by simp[results,Tryz.results117,go_sem,e0,e1,e2]) rfl ⟨_,rfl,KR.out,((hB0.setCell (by simp) _).setCell (by simp) _).setCell (by simp) _⟩
  ·have KR:=Key.out false rfl
   go_enter Tryz.func117,Tryz.ntmps117
   go_upto_region 1 with fail
   rw[←hW0];clear hW0
   go_wp2
   exact bodyPost_ret (v:= .agg #[.bool false,.slice A kk cc,.slice A2 k2 c2]) (by simp[results,Tryz.results117,go_sem,e0,e1,e2]) rfl ⟨_,rfl,KR.out,((hB0.setCell (by simp) _).setCell (by simp) _).setCell (by simp) _⟩
def qS (q:Rat):Int:=if q.num=0 then 0 else if q.num<0 then -1 else 1
theorem Ee (v:Value) (q:Rat) (w:World) (h:Rt w v q):Calls Tryz.prog 72 #[v] w fun e w'=>e = .returned (.int .i64 (qS q))∧Below w.heap.size w w':=by
 obtain⟨neg,nv,dv,n,d,rfl,h1,h2,z1,z2,z3,z4,hneg,hn,z5⟩:=h.open_;clear z1 z2 z3 z4 z5;by_cases hz:n=0
 ·obtain⟨A,cc,hnv⟩:=Nt.zero_len (hz ▸ h1)
  have hs:qS q=0:=by unfold qS;rw[if_pos (by omega)]
  have Hs:=hid hs;clear h1 h2 hz h hneg hn hs;subst hnv;go_enter Tryz.func72,Tryz.ntmps72
  go_wp2
  go_ret;exact⟨by rw[Hs.out];rfl,(Below.refl _ _).alloc (Nat.le_refl _) _⟩
 ·obtain⟨A,kk,cc,hnv,hkk,hkm⟩:=h1.pos_len hz
  have hb:((kk:Int)==0)=false:=by simpa using (by omega:¬(kk:Int)=0)
  cases neg
  ·have hs:qS q=1:=by
    have:=of_decide_eq_false hneg.symm;unfold qS;rw[if_neg (by omega),if_neg this]
   have Hs:=hid hs;clear h1 h2 hz h hneg hn hs;subst hnv;go_enter Tryz.func72,Tryz.ntmps72
   go_wp2
   go_ret;exact⟨by rw[Hs.out];rfl,(Below.refl _ _).alloc (Nat.le_refl _) _⟩
  ·have hs:qS q = -1:=by
    have:=QaL hneg.symm;unfold qS;rw[if_neg (by omega),if_pos this]
   have Hs:=hid hs;clear h1 h2 hz h hneg hn hs;subst hnv;go_enter Tryz.func72,Tryz.ntmps72
   go_wp2
   go_ret;exact⟨by rw[Hs.out];rfl,(Below.refl _ _).alloc (Nat.le_refl _) _⟩
theorem KX (n:Int) (w:World) (h1: -9223372036854775808≤n) (h2:n≤9223372036854775807):Calls Tryz.prog 46 #[.int .i64 n] w (qR (n:Rat) w):=by
 have hO:=ja.make w 69 [.bool false,.slice none 0 0,.slice none 0 0];have hB:Below w.heap.size w (w.alloc (.cells #[.bool false,.slice none 0 0,.slice none 0 0] 69)):=(Below.refl _ _).alloc (Nat.le_refl _) _
 obtain⟨W0,hW0⟩:∃W0,W0=w.alloc (.cells #[.bool false,.slice none 0 0,.slice none 0 0] 69):=⟨_,rfl⟩
 have hs:w.heap.size<W0.heap.size:=by rw[hW0];simp
 change ja (w.alloc (.cells #[.bool false,.slice none 0 0,.slice none 0 0] 69)) _ _ _ at hO;rw[←hW0] at hO hB
 have ha:n.natAbs<WB:=by unfold WB;omega
 have hq:(n:Rat)=j9 (decide (n<0)) n.natAbs 1:=by
  rw[zI];by_cases h:n<0
  ·rw[QaK h];show _=mkRat (-(n.natAbs:Int)) 1;rw[show -(n.natAbs:Int)=n from by omega];exact(Rat.mkRat_one n).symm
  ·rw[Qat h];show _=mkRat (n.natAbs:Int) 1;rw[show (n.natAbs:Int)=n from by omega];exact(Rat.mkRat_one n).symm
 have Hq:=hid hq;clear hq;go_enter Tryz.func46,Tryz.ntmps46
 go_upto_region 1 with fail
 rw[←hW0];clear hW0
 go_wp2_with (go_at_call 51;refine(WV _ _ h1 h2).mono ?_;rintro e w' ⟨rfl,rfl⟩)
 refine(Ka n.natAbs _ ha).mono ?_;rintro e w2 ⟨nv,rfl,hnv,hB2⟩;have hO2:=(hO.below hB2 hs).alloc (.cells #[.int .u64 1] 89);have hnv2:=hnv.below ((Below.refl _ w2).alloc (Nat.le_refl _) (.cells #[.int .u64 1] 89));have hone:=Nt.one w2 89;have hW2:=(hB.trans (hB2.mono hB.size)).alloc (Qap hB.size hB2.size) (.cells #[.int .u64 1] 89)
 have hR:=Rt.mk_ (neg:=decide (n<0)) (by decide:(1:Nat)≠0) (QbX n.natAbs) (by intro h;have:=QaL h;omega)
  (hnv2.put3 (a':= .bool (decide (n<0))) (b':=nv) (c':= .slice (some ⟨w2.heap.size,0,none⟩) 1 1) hO2 (ju _) (jr _ _ _) (jr _ _ _) (ju _) hnv.noInt)
  (hone.put3 (a':= .bool (decide (n<0))) (b':=nv) (c':= .slice (some ⟨w2.heap.size,0,none⟩) 1 1) hO2 (ju _) (jr _ _ _) (jr _ _ _) (ju _) hnv.noInt)
 rw[←Hq.out] at hR;have HR:=hid hR;have HW:=hid hW2;obtain⟨A,kk,cc,hnvs,_⟩:=hnv.size_;obtain⟨e0,e1,e2,k0,k1,k2⟩:=hO2.three;clear hR hone hnv hnv2 hO2 hW2 h1 h2 ha;generalize decide (n<0)=ng at *;subst hnvs
 go_wp2
 exact bodyPost_ret (v:= .agg #[.bool ng,.slice A kk cc,.slice (some ⟨w2.heap.size,0,none⟩) 1 1]) (by simp[results,Tryz.results46,go_sem,e0,e1,e2]) rfl ⟨_,rfl,HR.out,((HW.out.setCell (by simp) _).setCell (by simp) _).setCell (by simp) _⟩
theorem GN (v u:Value) (p q:Rat) (w:World) (h:Rt w v p) (h':Rt w u q) (hq0:q≠0) (f1:jp p.num.natAbs) (f2:jp p.den) (f3:jp q.num.natAbs) (f4:jp q.den):
  Calls Tryz.prog 47 #[v,u] w (qR (p/q) w):=by
 obtain⟨na,nv,dv,n,d,rfl,h1,h2,hd,hc1,hna,hp,z1,z2,z3⟩:=h.open_;obtain⟨nb,mv,ev,m,e,rfl,h3,h4,he,hc2,hnb,hq,y1,y2,y3⟩:=h'.open_
 have hm0:m≠0:=by
  intro hm;apply hq0;rw[hq,hm,zI];cases nb <;> simp[sg]
 obtain⟨W0,hW0,hP,hQ,hR,hB0,hs0⟩:=Vt w (.bool na) nv dv (.bool nb) mv ev;have hcall:=Mc na nb nv dv ev mv n d e m W0 (h1.below hB0) (h2.below hB0) (h4.below hB0) (h3.below hB0) hd hm0 (z2 ▸ f1) (z3 ▸ f2) (y3 ▸ f4) (y2 ▸ f3) hc1 (by rw[Qbb];exact hc2);rw[←hp,←AM nb m e,←hq,←Rat.div_def] at hcall;have Hcall:=hid hcall;obtain⟨A,k1,c1,hnv,_⟩:=h1.size_;obtain⟨A2,k2,c2,hdv,_⟩:=h2.size_;obtain⟨A3,k3,c3,hmv,_⟩:=h3.size_;obtain⟨A4,k4,c4,hev,_⟩:=h4.size_;clear hcall z1 z2 z3 y1 y2 y3 hq hp hc1 hc2 hna hnb h h' h1 h2 h3 h4 f1 f2 f3 f4 hd he hm0 hq0;subst hnv hdv hmv hev;obtain⟨a0,a1,a2,_,_,_⟩:=hP.three;obtain⟨b0,b1,b2,_,_,_⟩:=hQ.three;go_enter Tryz.func47,Tryz.ntmps47
 go_upto_region 1 with fail
 rw[←hW0];clear hW0
 go_wp2_with fail
 refine Hcall.out.mono ?_;rintro e w1 ⟨v,rfl,hv,hB1⟩;obtain⟨nv1,dv1,hvs,g1,g2⟩:=hv;obtain⟨A5,k5,c5,hnv1,_⟩:=g1.size_;obtain⟨A6,k6,c6,hdv1,_⟩:=g2.size_;have hR1:=hR.below hB1 hs0
 have hv2:Rt w1 (.agg #[.bool (decide ((p/q).num<0)),nv1,dv1]) (p/q):=⟨nv1,dv1,rfl,g1,g2⟩
 have HV:=hid (hv2.put3 (a':= .bool (decide ((p/q).num<0))) (b':=nv1) (c':=dv1) hR1 (ju _) (jr _ _ _) (jr _ _ _) (ju _) g1.noInt);obtain⟨e0,e1,e2,k0,k1',k2'⟩:=hR1.three;have hWt:=hB0.trans (hB1.mono hB0.size);clear g1 g2 hR1 hv2 hP hQ hR;generalize decide ((p/q).num<0)=ng at *;subst hvs hnv1 hdv1
 go_wp2
 exact bodyPost_ret (v:= .agg #[.bool ng,.slice A5 k5 c5,.slice A6 k6 c6]) (by simp[results,Tryz.results47,go_sem,e0,e1,e2]) rfl ⟨_,rfl,HV.out,((hWt.setCell (by simp;omega) _).setCell (by simp;omega) _).setCell (by simp;omega) _⟩
def kI (p:Rat):Prop:=jp p.num.natAbs∧jp p.den
def yf (p q:Rat):Prop:=kI p∧kI q∧jp (p.num.natAbs*q.den+q.num.natAbs*p.den)
theorem UD (p:Rat):sg (decide (p.num<0)) p.num.natAbs=p.num:=by
 unfold sg;by_cases h:p.num<0
 ·rw[QaK h,if_pos rfl];omega
 ·rw[Qat h,if_neg (by simp)];omega
theorem Fq (p q:Rat) (g:Nat) (hg:Nat.gcd p.den q.den=g) (r:Bool×Nat) (hr:yt (decide (p.num<0)) (p.num.natAbs*(q.den/g)) (decide (q.num<0)) (q.num.natAbs*(p.den/g))=r):
  decide ((p+q).num<0)=r.1∧(p+q).num.natAbs=r.2/Nat.gcd r.2 g∧(p+q).den=p.den/g*(q.den/Nat.gcd r.2 g):=by
 obtain⟨h1,h2⟩:=SN p q;rw[hg] at h1 h2
 have hgp:0<g:=by rw[←hg];exact Nat.gcd_pos_of_pos_left _ p.den_pos
 have hA:0<q.den/g:=Nat.div_pos (by rw[←hg];exact Qcd _ q.den_pos) hgp;have hB:0<p.den/g:=Nat.div_pos (by rw[←hg];exact Nat.gcd_le_left _ p.den_pos) hgp
 have e1:p.num*((q.den/g:Nat):Int)=sg (decide (p.num<0)) (p.num.natAbs*(q.den/g)):=by rw[Yp,UD]
 have e2:q.num*((p.den/g:Nat):Int)=sg (decide (q.num<0)) (q.num.natAbs*(p.den/g)):=by rw[Yp,UD]
 rw[e1,e2] at h1 h2
 have hn:=Pf (decide (p.num<0)) (decide (q.num<0)) (p.num.natAbs*(q.den/g)) (q.num.natAbs*(p.den/g)) (fun h=>by
  have:=QaL h
  exact Nat.mul_ne_zero (by omega) (by omega)) (fun h=>by
  have:=QaL h
  exact Nat.mul_ne_zero (by omega) (by omega))
 have ha:=Er (decide (p.num<0)) (decide (q.num<0)) (p.num.natAbs*(q.den/g)) (q.num.natAbs*(p.den/g));rw[hr] at hn ha;generalize sg (decide (p.num<0)) (p.num.natAbs*(q.den/g))+sg (decide (q.num<0)) (q.num.natAbs*(p.den/g))=T at *;rw[←ha] at h1 h2;have hc:0<Nat.gcd r.2 g:=QaY _ hgp
 have hd:((Nat.gcd r.2 g:Nat):Int)∣T:=by
  have:Nat.gcd r.2 g∣T.natAbs:=by rw[←ha];exact Qco _ _
  exact Int.ofNat_dvd_left.mpr this
 generalize Nat.gcd r.2 g=c at *;obtain⟨z,hz⟩:=hd
 have hzz:T/(c:Int)=z:=by rw[hz];exact Int.mul_ediv_cancel_left _ (by omega)
 rw[hzz] at h1;refine⟨?_,?_,h2⟩
 ·rw[h1,hn]
  apply decide_eq_decide.mpr;constructor
  ·intro h;rw[hz];exact Int.mul_neg_of_pos_of_neg (by omega) h
  ·intro h
   by_cases h3:z<0
   ·exact h3
   ·have:0≤(c:Int)*z:=QbW (by omega) (by omega)
    omega
 ·rw[h1]
  have:r.2=c*z.natAbs:=by rw[ha,hz,QbB];simp
  conv=>rhs;lhs;rw[this]
  rw[Nat.mul_div_cancel_left _ hc]
theorem xJ {a b:World} (h:Below a.drew.heap.size a.drew b):Below a.heap.size a b:=⟨h.os,h.tape,h.output,h.size,h.block⟩
theorem qJ {x x':World} {R:Nat} {t:TypeId} {cs:List Value} (hb:Below x.heap.size x x') (h:Hid (ja x R t cs)):Hid (ja x' R t cs):=hid (h.out.below hb h.out.lt)
theorem Mb (v u:Value) (p q:Rat) (w:World) (h:Rt w v p) (h':Rt w u q) (hf:yf p q):
  Calls Tryz.prog 116 #[v,u] w (qR (p+q) w):=by
 obtain⟨nv,dv,rfl,h1,h2⟩:=h;obtain⟨mv,ev,rfl,h3,h4⟩:=h';have hdp:=p.den_pos;have heq:=q.den_pos
 obtain⟨g,hg⟩:∃g,Nat.gcd p.den q.den=g:=⟨_,rfl⟩
 obtain⟨r,hr⟩:∃r,yt (decide (p.num<0)) (p.num.natAbs*(q.den/g)) (decide (q.num<0)) (q.num.natAbs*(p.den/g))=r:=⟨_,rfl⟩
 have PP:=hid (Fq p q g hg r hr)
 have hgp:0<g:=by rw[←hg];exact Nat.gcd_pos_of_pos_left _ p.den_pos
 have fx:jp (p.num.natAbs*(q.den/g)):=hf.2.2.le (Qap (Qan _ (QaW _ _)) (Qcn _ _));have fy:jp (q.num.natAbs*(p.den/g)):=hf.2.2.le (Qap (Qan _ (QaW _ _)) (Nat.le_add_left _ _))
 have fr:jp r.2:=hf.2.2.le (by
  have ha:=Er (decide (p.num<0)) (decide (q.num<0)) (p.num.natAbs*(q.den/g)) (q.num.natAbs*(p.den/g));rw[hr] at ha;have h1:p.num.natAbs*(q.den/g)≤p.num.natAbs*q.den:=Qan _ (QaW _ _);have h2:q.num.natAbs*(p.den/g)≤q.num.natAbs*p.den:=Qan _ (QaW _ _);unfold sg at ha
  split at ha <;> split at ha <;> omega)
 have fn:=hf.1.1;have fd:=hf.1.2;have fm:=hf.2.1.1;have fe:=hf.2.1.2;clear hf;have fA:jp (q.den/g):=fe.le (QaW _ _);have fB:jp (p.den/g):=fd.le (QaW _ _);have SS:=hid (fun (x y:Value) W (hx:Nt W x (p.num.natAbs*(q.den/g))) (hy:Nt W y (q.num.natAbs*(p.den/g)))=>(by have:=ON (decide (p.num<0)) (decide (q.num<0)) x y _ _ W hx hy fx fy;rw[hr] at this;exact this:Calls Tryz.prog 152 #[.bool (decide (p.num<0)),x,.bool (decide (q.num<0)),y] W (Ep r W)));obtain⟨s,z⟩:=r;dsimp only at PP fr;have HR:=hid hr;have HGg:=hid hg;clear hr hg fx fy;generalize decide (p.num<0)=na at *;generalize decide (q.num<0)=nb at *;generalize p.num.natAbs=n at *;generalize q.num.natAbs=m at *;generalize hpd:p.den=d at *;generalize hqe:q.den=e at *;have Hpd:=hid hpd;have Hqe:=hid hqe;clear hpd hqe
 obtain⟨W0,hW0⟩:∃W0,W0=((w.alloc (.cells #[.bool na,nv,dv] 69)).alloc (.cells #[.bool nb,mv,ev] 69)).alloc (.cells #[.bool false,.slice none 0 0,.slice none 0 0] 69):=⟨_,rfl⟩
 have hB0:Below w.heap.size w W0:=by rw[hW0];exact(((Below.refl _ _).alloc (Nat.le_refl _) _).alloc (by simp) _).alloc (by simp;omega) _
 have hs0:W0.heap.size=w.heap.size+3:=by rw[hW0];simp
 have hP:ja W0 w.heap.size 69 [.bool na,nv,dv]:=by rw[hW0];exact((ja.make w _ [.bool na,nv,dv]).alloc _).alloc _
 have hQ:ja W0 (w.heap.size+1) 69 [.bool nb,mv,ev]:=by
  rw[hW0];have:=ja.make (w.alloc (.cells #[.bool na,nv,dv] 69)) 69 [.bool nb,mv,ev];simp only[World.size_alloc] at this;exact this.alloc _
 have hRR:ja W0 (w.heap.size+1+1) 69 [.bool false,.slice none 0 0,.slice none 0 0]:=by
  rw[hW0];have:=ja.make ((w.alloc (.cells #[.bool na,nv,dv] 69)).alloc (.cells #[.bool nb,mv,ev] 69)) 69 [.bool false,.slice none 0 0,.slice none 0 0];simp only[World.size_alloc] at this;exact this
 have N1:=h1.below hB0;have N2:=h2.below hB0;have N3:=h3.below hB0;have N4:=h4.below hB0
 have KS:Hid (∀x,Below W0.heap.size W0 x→x.cell? ⟨w.heap.size,0,none⟩=some (.bool na)∧x.cell? ⟨w.heap.size,1,none⟩=some nv∧x.cell? ⟨w.heap.size+1,0,none⟩=some (.bool nb)∧x.cell? ⟨w.heap.size+1,1,none⟩=some mv∧x.cell? ⟨w.heap.size+1,2,none⟩=some ev∧Below W0.heap.size W0 x):=hid (fun x hb=>
  ⟨(hb.cell (p:=⟨w.heap.size,0,none⟩) hP.lt).trans (hP.cell 0),(hb.cell (p:=⟨w.heap.size,1,none⟩) hP.lt).trans (hP.cell 1),(hb.cell (p:=⟨w.heap.size+1,0,none⟩) hQ.lt).trans (hQ.cell 0),(hb.cell (p:=⟨w.heap.size+1,1,none⟩) hQ.lt).trans (hQ.cell 1),(hb.cell (p:=⟨w.heap.size+1,2,none⟩) hQ.lt).trans (hQ.cell 2),hb⟩)
 have KT:=hid (fun (x x':World) (hb:Below x.heap.size x x') (h5:Below W0.heap.size W0 x)=>KS.out x' (h5.trans (hb.mono h5.size)));have HS0:=hid hs0;have HRR:=hid hRR;have HB0:=hid hB0;obtain⟨p0,p1,p2,_,_,_⟩:=hP.three;obtain⟨q0,q1,q2,_,_,_⟩:=hQ.three;have hPl:=hP.lt;have hQl:=hQ.lt;have HP:=hid hP;have HQ:=hid hQ;clear hs0 h1 h2 h3 h4 hP hQ hRR hB0;go_enter Tryz.func116,Tryz.ntmps116
 go_upto_region 1 with fail
 rw[←hW0];clear hW0
 go_wp2_with fail
 refine(JC dv ev d e _ N2 N4 fd fe).mono ?_;rintro e1 w1 ⟨gv,rfl,hgv,hB1⟩;rw[HGg.out] at hgv;have x2:=(hB1.cell (p:=⟨w.heap.size,2,none⟩) hPl).trans p2;have HB1:=hid hB1
 go_wp2_with fail
 refine(JA dv gv d g _ (N2.below hB1) hgv hgp fd).mono ?_;rintro e2 w2 ⟨rv,rfl,hrv,hB2⟩;have HW2:=hid (hB1.trans (hB2.mono hB1.size));have hgv2:=hgv.below hB2;clear hB1 hB2 hgv x2 p0 p1 p2 q0 q1 q2
 go_wp2_with fail
 go_region_held3 (fun x=>x.cell? ⟨w.heap.size,0,none⟩=some (.bool na)∧x.cell? ⟨w.heap.size,1,none⟩=some nv∧x.cell? ⟨w.heap.size+1,0,none⟩=some (.bool nb)∧x.cell? ⟨w.heap.size+1,1,none⟩=some mv∧x.cell? ⟨w.heap.size+1,2,none⟩=some ev∧Below W0.heap.size W0 x)
  (first | exact KS.out _ HW2.out.drew | exact KT.out _ _ (by assumption) (by assumption))
  (first
   | (go_at_call 142;go_split_ands;refine(JA ev gv e g _ (N4.below (by assumption)) (hgv2.below (Below.refl _ _).drew) hgp fe).mono ?_;rintro e3 w3 ⟨xv,rfl,hxv,hB3⟩)
   | (go_at_call_of 143 nv;go_split_ands;refine(Q4 nv xv n (e/g) _ (N1.below (by assumption)) hxv fn fA).mono ?_;rintro e4 w4 ⟨yv,rfl,hyv,hB4⟩)
   | (go_at_call_of 143 mv;go_split_ands;refine(Q4 mv rv m (d/g) _ (N3.below (by assumption)) (hrv.below ((((Below.refl _ w2).drew).trans hB3).trans (hB4.mono hB3.size))) fm fB).mono ?_;rintro e5 w5 ⟨zv,rfl,hzv,hB5⟩)
   | (go_at_call 152;go_split_ands;refine(SS.out yv zv _ (hyv.below hB5) hzv).mono ?_;rintro e6 w6 ⟨sv,rfl,hsv,hB6⟩))
 have hW6:Below W0.heap.size W0 w6:=by go_split_ands;assumption
 have h26:Below w2.heap.size w2 w6:=(((xJ hB3).trans (hB4.mono hB3.size)).trans (hB5.mono (Qap hB3.size hB4.size))).trans (hB6.mono (Qap hB3.size (Qap hB4.size hB5.size)));have hgv6:=hgv2.below h26;have hrv6:=hrv.below h26;have HW6:=hid (HB0.out.trans (hW6.mono HB0.out.size));have HR6:=hid (HRR.out.below hW6 HRR.out.lt);have HQ6:=hid (HQ.out.below hW6 hQl);have N4':=N4.below hW6;have fg:jp g:=fd.le (by rw[←HGg.out];exact Nat.gcd_le_left _ hdp);clear hgv2 hrv hxv hyv hzv hB3 hB4 hB5 hB6 h26 KS KT HRR HW2 SS N1 N2 N3 N4 HP HQ hW6 HB1
 obtain⟨cg,hcg⟩:∃c,Nat.gcd z g=c:=⟨_,rfl⟩
 have hcp:0<cg:=by rw[←hcg];exact QaY _ hgp
 have HCG:=hid hcg;rw[hcg] at PP;clear hcg
 go_wp2_with fail
 refine(JC sv gv z g _ hsv hgv6 fr fg).mono ?_;rintro e7 w7 ⟨cv,rfl,hcv,hB7⟩;rw[HCG.out] at hcv;have HW7:=hid (HW6.out.trans (hB7.mono HW6.out.size));have hR7:Hid (ja w7.drew (w.heap.size+1+1) 69 [.bool false,.slice none 0 0,.slice none 0 0]):=hid (by have t:=HR6.out.below hB7 HR6.out.lt;exact t);have HQ7:=hid (HQ6.out.below hB7 HQ6.out.lt)
 have hs7:w.heap.size+2<w7.heap.size:=by have:=HR6.out.lt;have:=hB7.size;omega
 have hsv7:=hsv.below hB7;have hrv7:=hrv6.below hB7;have hev7:=N4'.below hB7;clear hB7 hsv hrv6 hgv6 HR6 HW6 HQ6 N4';have KS:Hid (w7.drew.cell? ⟨w.heap.size+1,2,none⟩=some ev∧w.heap.size+2<w7.drew.heap.size∧Below w.heap.size w w7.drew):=hid ⟨HQ7.out.cell 2,hs7,HW7.out.drew⟩;have KT:Hid (∀x x':World,Below x.heap.size x x'→x.cell? ⟨w.heap.size+1,2,none⟩=some ev→w.heap.size+2<x.heap.size→Below w.heap.size w x→x'.cell? ⟨w.heap.size+1,2,none⟩=some ev∧w.heap.size+2<x'.heap.size∧Below w.heap.size w x'):=hid (fun x x' hb h1 h2 h3=>⟨(hb.cell (p:=⟨w.heap.size+1,2,none⟩) (by simp;omega)).trans h1,Qac h2 hb.size,h3.trans (hb.mono h3.size)⟩)
 have KU:Hid (∀(x:World) (a b c:Value),x.cell? ⟨w.heap.size+1,2,none⟩=some ev→w.heap.size+2<x.heap.size→Below w.heap.size w x→(((x.setCell ⟨w.heap.size+1+1,0,none⟩ a).setCell ⟨w.heap.size+1+1,1,none⟩ b).setCell ⟨w.heap.size+1+1,2,none⟩ c).cell? ⟨w.heap.size+1,2,none⟩=some ev∧w.heap.size+2<(((x.setCell ⟨w.heap.size+1+1,0,none⟩ a).setCell ⟨w.heap.size+1+1,1,none⟩ b).setCell ⟨w.heap.size+1+1,2,none⟩ c).heap.size∧Below w.heap.size w (((x.setCell ⟨w.heap.size+1+1,0,none⟩ a).setCell ⟨w.heap.size+1+1,1,none⟩ b).setCell ⟨w.heap.size+1+1,2,none⟩ c)):=hid (fun x a b c h1 h2 h3=>by
  refine⟨?_,by simpa using h2,((h3.setCell (by simp;omega) _).setCell (by simp;omega) _).setCell (by simp;omega) _⟩;rw[World.cell?_setCell_other _ _ _ _ (by intro e;injection e with e1;omega),World.cell?_setCell_other _ _ _ _ (by intro e;injection e with e1;omega),World.cell?_setCell_other _ _ _ _ (by intro e;injection e with e1;omega)]
  exact h1)
 have fec:jp (e/cg):=fe.le (QaW _ _)
 go_wp2_with fail
 go_region_held3 (fun x=>x.cell? ⟨w.heap.size+1,2,none⟩=some ev∧w.heap.size+2<x.heap.size∧Below w.heap.size w x)
  (first | exact KS.out | exact KT.out _ _ (by assumption) (by assumption) (by assumption) (by assumption) | (go_split_ands;exact KU.out _ _ _ _ (by assumption) (by assumption) (by assumption)))
  (first
   | (go_at_call_of 142 sv;go_split_ands;refine(JA sv cv z cg _ (hsv7.below (Below.refl _ _).drew) (hcv.below (Below.refl _ _).drew) hcp fr).mono ?_;rintro e8 w8 ⟨xv,rfl,hxv,hB8⟩;have hR8:=qJ hB8 hR7)
   | (go_at_call_of 142 ev;go_split_ands;refine(JA ev cv e cg _ (hev7.below (xJ hB8)) (hcv.below (xJ hB8)) hcp fe).mono ?_;rintro e9 w9 ⟨yv,rfl,hyv,hB9⟩;have hR9:=qJ hB9 hR8)
   | (go_at_call 143;go_split_ands;refine(Q4 rv yv (d/g) (e/cg) _ (hrv7.below ((xJ hB8).trans (hB9.mono hB8.size))) hyv fB fec).mono ?_;rintro e10 w10 ⟨tv,rfl,htv,hB10⟩;have hR10:=qJ hB10 hR9;obtain⟨r0,r1,r2,k0,k1,k2⟩:=hR10.out.three;obtain⟨A1,n1,c1,rfl,_⟩:=hxv.size_;obtain⟨A2,n2,c2,rfl,_⟩:=htv.size_))
 have hWf:Below w.heap.size w (((w10.setCell ⟨w.heap.size+1+1,0,none⟩ (.bool s)).setCell ⟨w.heap.size+1+1,1,none⟩ (.slice A1 n1 c1)).setCell ⟨w.heap.size+1+1,2,none⟩ (.slice A2 n2 c2)):=by go_split_ands;assumption
 have hx10:=hxv.below (hB9.trans (hB10.mono hB9.size));have Hn:=hid (hx10.put3 (c':= .slice A2 n2 c2) hR10.out (ju _) (jr _ _ _) (jr _ _ _) (ju s) hx10.noInt);have Hd:=hid (htv.put3 (c':= .slice A2 n2 c2) hR10.out (ju _) (jr _ _ _) (jr _ _ _) (ju s) hx10.noInt);have HWf:=hid hWf
 have HRt:Hid (qR (p+q) w (.returned (.agg #[.bool s,.slice A1 n1 c1,.slice A2 n2 c2])) (((w10.setCell ⟨w.heap.size+1+1,0,none⟩ (.bool s)).setCell ⟨w.heap.size+1+1,1,none⟩ (.slice A1 n1 c1)).setCell ⟨w.heap.size+1+1,2,none⟩ (.slice A2 n2 c2))):=hid (by
  refine⟨_,rfl,⟨_,_,by rw[PP.out.1],?_,?_⟩,HWf.out⟩
  ·rw[PP.out.2.1];exact Hn.out
  ·rw[PP.out.2.2];exact Hd.out)
 clear hx10 hxv htv hyv hWf Hn Hd HWf hB8 hB9 hB10 hR8 hR9 hR7 HW7 hcv hsv7 hrv7 hev7 KS KT KU PP
 go_wp2
 exact bodyPost_ret (v:= .agg #[.bool s,.slice A1 n1 c1,.slice A2 n2 c2]) (by simp[results,Tryz.results116,go_sem,r0,r1,r2]) rfl HRt.out
theorem Ln (l dg a b:List UInt8) (w:World) (h1:hasPrefix l [45]=true) (h2:trimPrefix l [45]=dg) (h3:cut dg [47]=(a,b,true)) (hdl:dg.length<4294967281) (hal:a.length<4294967281) (hbl:b.length<4294967281) (hG:jK w) (hDa:qI a.length) (hDb:qI b.length)
  (hn:jF a) (hz:(a==[48])=false) (hd:jF b) (hb0:(b==[48])=false) (hb1:(b==[49])=false) (hlen:a.length≤600) (hlen2:b.length≤600) (hg:decide (Nat.gcd (jf a) (jf b)=1)=false):Calls Tryz.prog 36 #[.string ⟨l.toArray⟩] w (ql 1 w):=by
 go_enter Tryz.func36,Tryz.ntmps36
 go_wp2_with fail
 refine(qi l dg true _ h1 h2).mono ?_;rintro e w' ⟨rfl,rfl⟩
 go_wp2_with fail
 refine(qj dg a b true _ h3 hdl (hG.below ((Below.refl _ _).alloc (Nat.le_refl _) _))).mono ?_;rintro e w' ⟨rfl,n,rfl⟩
 go_wp2_with fail
 refine(kA a _ hn hal).mono ?_;rintro e w1 ⟨rfl,hB1⟩
 have hO1:=(((ja.make w 69 [.bool false,.slice none 0 0,.slice none 0 0]).drewN n).below hB1 (by simp))
 have hW1:Below w.heap.size w w1:=(below_drewN ((Below.refl w.heap.size w).alloc (Nat.le_refl _) _) n).trans (hB1.mono (by simp))
 go_wp2_with fail
 refine(kA b _ hd hbl).mono ?_;rintro e w2 ⟨rfl,hB2⟩;replace hO1:=hO1.below hB2 (hO1.lt);replace hW1:=hW1.trans (hB2.mono hW1.size)
 go_wp2_with fail
 refine(zK a _ hn.1 (by omega) hDa).mono ?_;rintro e w3 ⟨nv,rfl,hnv,hB3⟩
 go_wp2_with fail
 refine(zK b _ hd.1 (by omega) hDb).mono ?_;rintro e w4 ⟨dv,rfl,hdv,hB4⟩;have hnv4:=hnv.below hB4;have hO4:=(hO1.below hB3 hO1.lt).below hB4 (Qac hO1.lt hB3.size);have hW4:=(hW1.trans (hB3.mono hW1.size)).trans (hB4.mono (Qap hW1.size hB3.size));obtain⟨A,m,c,hnvs,hm⟩:=hnv4.size_;obtain⟨A2,m2,c2,hdvs,hm2⟩:=hdv.size_;have Hnv:=hid hnv4;have Hdv:=hid hdv;clear hnv hdv hnv4;subst hnvs hdvs;have hb5:Below w4.heap.size w4 (w4.alloc (.cells #[.bool true,.slice A m c,.slice A2 m2 c2] 69)):=(Below.refl _ _).alloc (Nat.le_refl _) _;have hO5:=ja.make w4 69 [.bool true,.slice A m c,.slice A2 m2 c2];have HO6:=hid (hO4.alloc (.cells #[.bool true,.slice A m c,.slice A2 m2 c2] 69));have hfa:=hid (jp.of_pow (xf hn.1) hDa (by omega));have hfb:=hid (jp.of_pow (xf hd.1) hDb (by omega))
 go_wp2_with fail
 refine(JC _ _ (jf a) (jf b) _ (Hnv.out.below hb5) (Hdv.out.below hb5) hfa.out hfb.out).mono ?_;rintro e w5 ⟨gv,rfl,hgv,hB5⟩
 go_wp2_with fail
 refine(qf _ _ _ hgv).mono ?_;rintro e w6 ⟨rfl,rfl⟩;rw[hg]
 have hs5:w4.heap.size<w5.heap.size:=by have:=hB5.size;simp at this;omega
 have hO7:=HO6.out.below hB5 (by have:=hO4.lt;simp;omega);obtain⟨c0,c1,c2',f0,f1,f2⟩:=hO7.three;have hW5:=hW4.trans ((hb5.trans (hB5.mono hb5.size)).mono hW4.size)
 go_wp2
 exact bodyPost_ret (v:= .tuple #[kd,.int .i64 1]) (by simp[results,Tryz.results36,go_sem,c0,c1,c2',kd]) rfl ⟨rfl,((hW5.setCell (by simp) _).setCell (by simp) _).setCell (by simp) _⟩
theorem Lb (l dg a b:List UInt8) (w:World) (h1:hasPrefix l [45]=true) (h2:trimPrefix l [45]=dg) (h3:cut dg [47]=(a,b,true)) (hdl:dg.length<4294967281) (hal:a.length<4294967281) (hbl:b.length<4294967281) (hG:jK w) (hDa:qI a.length) (hDb:qI b.length)
  (hn:jF a) (hz:(a==[48])=false) (hd:jF b) (hb0:(b==[48])=false) (hb1:(b==[49])=false) (hlen:a.length≤600) (hlen2:b.length≤600) (hg:decide (Nat.gcd (jf a) (jf b)=1)=true):Calls Tryz.prog 36 #[.string ⟨l.toArray⟩] w (JH (j9 true (jf a) (jf b)) w):=by
 go_enter Tryz.func36,Tryz.ntmps36
 go_wp2_with fail
 refine(qi l dg true _ h1 h2).mono ?_;rintro e w' ⟨rfl,rfl⟩
 go_wp2_with fail
 refine(qj dg a b true _ h3 hdl (hG.below ((Below.refl _ _).alloc (Nat.le_refl _) _))).mono ?_;rintro e w' ⟨rfl,n,rfl⟩
 go_wp2_with fail
 refine(kA a _ hn hal).mono ?_;rintro e w1 ⟨rfl,hB1⟩
 have hO1:=(((ja.make w 69 [.bool false,.slice none 0 0,.slice none 0 0]).drewN n).below hB1 (by simp))
 have hW1:Below w.heap.size w w1:=(below_drewN ((Below.refl w.heap.size w).alloc (Nat.le_refl _) _) n).trans (hB1.mono (by simp))
 go_wp2_with fail
 refine(kA b _ hd hbl).mono ?_;rintro e w2 ⟨rfl,hB2⟩;replace hO1:=hO1.below hB2 (hO1.lt);replace hW1:=hW1.trans (hB2.mono hW1.size)
 go_wp2_with fail
 refine(zK a _ hn.1 (by omega) hDa).mono ?_;rintro e w3 ⟨nv,rfl,hnv,hB3⟩
 go_wp2_with fail
 refine(zK b _ hd.1 (by omega) hDb).mono ?_;rintro e w4 ⟨dv,rfl,hdv,hB4⟩;have hnv4:=hnv.below hB4;have hO4:=(hO1.below hB3 hO1.lt).below hB4 (Qac hO1.lt hB3.size);have hW4:=(hW1.trans (hB3.mono hW1.size)).trans (hB4.mono (Qap hW1.size hB3.size));obtain⟨A,m,c,hnvs,hm⟩:=hnv4.size_;obtain⟨A2,m2,c2,hdvs,hm2⟩:=hdv.size_;have Hnv:=hid hnv4;have Hdv:=hid hdv;clear hnv hdv hnv4;subst hnvs hdvs;have hb5:Below w4.heap.size w4 (w4.alloc (.cells #[.bool true,.slice A m c,.slice A2 m2 c2] 69)):=(Below.refl _ _).alloc (Nat.le_refl _) _;have hO5:=ja.make w4 69 [.bool true,.slice A m c,.slice A2 m2 c2];have HO6:=hid (hO4.alloc (.cells #[.bool true,.slice A m c,.slice A2 m2 c2] 69));have hfa:=hid (jp.of_pow (xf hn.1) hDa (by omega));have hfb:=hid (jp.of_pow (xf hd.1) hDb (by omega))
 go_wp2_with fail
 refine(JC _ _ (jf a) (jf b) _ (Hnv.out.below hb5) (Hdv.out.below hb5) hfa.out hfb.out).mono ?_;rintro e w5 ⟨gv,rfl,hgv,hB5⟩
 go_wp2_with fail
 refine(qf _ _ _ hgv).mono ?_;rintro e w6 ⟨rfl,rfl⟩;rw[hg]
 have hs5:w4.heap.size<w5.heap.size:=by have:=hB5.size;simp at this;omega
 have hO7:=HO6.out.below hB5 (by have:=hO4.lt;simp;omega);have hO8:=hO5.below hB5 (by simp);obtain⟨c0,c1,c2',f0,f1,f2⟩:=hO7.three;obtain⟨d0,d1,d2,_,_,_⟩:=hO8.three;have hW5:=hW4.trans ((hb5.trans (hB5.mono hb5.size)).mono hW4.size)
 have hR0:Rt w5 (.agg #[.bool true,.slice A m c,.slice A2 m2 c2]) (j9 true (jf a) (jf b)):=
  Rt.mk_ (Yc hd hb0) (QaL hg) (fun _=>Yc hn hz) ((Hnv.out.below hb5).below hB5) ((Hdv.out.below hb5).below hB5)
 have HR:=hid (hR0.put3 (a':= .bool true) (b':= .slice A m c) (c':= .slice A2 m2 c2) hO7 (ju _) (jr _ _ _) (jr _ _ _) (ju _) (jr _ _ _));clear hR0
 go_wp2
 exact bodyPost_ret (v:= .tuple #[.agg #[.bool true,.slice A m c,.slice A2 m2 c2],.int .i64 0]) (by simp[results,Tryz.results36,go_sem,c0,c1,c2']) rfl ⟨_,rfl,HR.out,((hW5.setCell (by simp) _).setCell (by simp) _).setCell (by simp) _⟩
theorem Lo (l dg a b:List UInt8) (w:World) (h1:hasPrefix l [45]=false) (h2:trimPrefix l [45]=dg) (h3:cut dg [47]=(a,b,true)) (hdl:dg.length<4294967281) (hal:a.length<4294967281) (hbl:b.length<4294967281) (hG:jK w) (hDa:qI a.length) (hDb:qI b.length)
  (hn:jF a) (hd:jF b) (hb0:(b==[48])=false) (hb1:(b==[49])=false) (hlen:a.length≤600) (hlen2:b.length≤600) (hg:decide (Nat.gcd (jf a) (jf b)=1)=false):Calls Tryz.prog 36 #[.string ⟨l.toArray⟩] w (ql 1 w):=by
 go_enter Tryz.func36,Tryz.ntmps36
 go_wp2_with fail
 refine(qi l dg false _ h1 h2).mono ?_;rintro e w' ⟨rfl,rfl⟩
 go_wp2_with fail
 refine(qj dg a b true _ h3 hdl (hG.below ((Below.refl _ _).alloc (Nat.le_refl _) _))).mono ?_;rintro e w' ⟨rfl,n,rfl⟩
 go_wp2_with fail
 refine(kA a _ hn hal).mono ?_;rintro e w1 ⟨rfl,hB1⟩
 have hO1:=(((ja.make w 69 [.bool false,.slice none 0 0,.slice none 0 0]).drewN n).below hB1 (by simp))
 have hW1:Below w.heap.size w w1:=(below_drewN ((Below.refl w.heap.size w).alloc (Nat.le_refl _) _) n).trans (hB1.mono (by simp))
 go_wp2_with fail
 refine(kA b _ hd hbl).mono ?_;rintro e w2 ⟨rfl,hB2⟩;replace hO1:=hO1.below hB2 (hO1.lt);replace hW1:=hW1.trans (hB2.mono hW1.size)
 go_wp2_with fail
 refine(zK a _ hn.1 (by omega) hDa).mono ?_;rintro e w3 ⟨nv,rfl,hnv,hB3⟩
 go_wp2_with fail
 refine(zK b _ hd.1 (by omega) hDb).mono ?_;rintro e w4 ⟨dv,rfl,hdv,hB4⟩;have hnv4:=hnv.below hB4;have hO4:=(hO1.below hB3 hO1.lt).below hB4 (Qac hO1.lt hB3.size);have hW4:=(hW1.trans (hB3.mono hW1.size)).trans (hB4.mono (Qap hW1.size hB3.size));obtain⟨A,m,c,hnvs,hm⟩:=hnv4.size_;obtain⟨A2,m2,c2,hdvs,hm2⟩:=hdv.size_;have Hnv:=hid hnv4;have Hdv:=hid hdv;clear hnv hdv hnv4;subst hnvs hdvs;have hb5:Below w4.heap.size w4 (w4.alloc (.cells #[.bool false,.slice A m c,.slice A2 m2 c2] 69)):=(Below.refl _ _).alloc (Nat.le_refl _) _;have hO5:=ja.make w4 69 [.bool false,.slice A m c,.slice A2 m2 c2];have HO6:=hid (hO4.alloc (.cells #[.bool false,.slice A m c,.slice A2 m2 c2] 69));have hfa:=hid (jp.of_pow (xf hn.1) hDa (by omega));have hfb:=hid (jp.of_pow (xf hd.1) hDb (by omega))
 go_wp2_with fail
 refine(JC _ _ (jf a) (jf b) _ (Hnv.out.below hb5) (Hdv.out.below hb5) hfa.out hfb.out).mono ?_;rintro e w5 ⟨gv,rfl,hgv,hB5⟩
 go_wp2_with fail
 refine(qf _ _ _ hgv).mono ?_;rintro e w6 ⟨rfl,rfl⟩;rw[hg]
 have hs5:w4.heap.size<w5.heap.size:=by have:=hB5.size;simp at this;omega
 have hO7:=HO6.out.below hB5 (by have:=hO4.lt;simp;omega);obtain⟨c0,c1,c2',f0,f1,f2⟩:=hO7.three;have hW5:=hW4.trans ((hb5.trans (hB5.mono hb5.size)).mono hW4.size)
 go_wp2
 exact bodyPost_ret (v:= .tuple #[kd,.int .i64 1]) (by simp[results,Tryz.results36,go_sem,c0,c1,c2',kd]) rfl ⟨rfl,((hW5.setCell (by simp) _).setCell (by simp) _).setCell (by simp) _⟩
theorem Lc (l dg a b:List UInt8) (w:World) (h1:hasPrefix l [45]=false) (h2:trimPrefix l [45]=dg) (h3:cut dg [47]=(a,b,true)) (hdl:dg.length<4294967281) (hal:a.length<4294967281) (hbl:b.length<4294967281) (hG:jK w) (hDa:qI a.length) (hDb:qI b.length)
  (hn:jF a) (hd:jF b) (hb0:(b==[48])=false) (hb1:(b==[49])=false) (hlen:a.length≤600) (hlen2:b.length≤600) (hg:decide (Nat.gcd (jf a) (jf b)=1)=true):Calls Tryz.prog 36 #[.string ⟨l.toArray⟩] w (JH (j9 false (jf a) (jf b)) w):=by
 go_enter Tryz.func36,Tryz.ntmps36
 go_wp2_with fail
 refine(qi l dg false _ h1 h2).mono ?_;rintro e w' ⟨rfl,rfl⟩
 go_wp2_with fail
 refine(qj dg a b true _ h3 hdl (hG.below ((Below.refl _ _).alloc (Nat.le_refl _) _))).mono ?_;rintro e w' ⟨rfl,n,rfl⟩
 go_wp2_with fail
 refine(kA a _ hn hal).mono ?_;rintro e w1 ⟨rfl,hB1⟩
 have hO1:=(((ja.make w 69 [.bool false,.slice none 0 0,.slice none 0 0]).drewN n).below hB1 (by simp))
 have hW1:Below w.heap.size w w1:=(below_drewN ((Below.refl w.heap.size w).alloc (Nat.le_refl _) _) n).trans (hB1.mono (by simp))
 go_wp2_with fail
 refine(kA b _ hd hbl).mono ?_;rintro e w2 ⟨rfl,hB2⟩;replace hO1:=hO1.below hB2 (hO1.lt);replace hW1:=hW1.trans (hB2.mono hW1.size)
 go_wp2_with fail
 refine(zK a _ hn.1 (by omega) hDa).mono ?_;rintro e w3 ⟨nv,rfl,hnv,hB3⟩
 go_wp2_with fail
 refine(zK b _ hd.1 (by omega) hDb).mono ?_;rintro e w4 ⟨dv,rfl,hdv,hB4⟩;have hnv4:=hnv.below hB4;have hO4:=(hO1.below hB3 hO1.lt).below hB4 (Qac hO1.lt hB3.size);have hW4:=(hW1.trans (hB3.mono hW1.size)).trans (hB4.mono (Qap hW1.size hB3.size));obtain⟨A,m,c,hnvs,hm⟩:=hnv4.size_;obtain⟨A2,m2,c2,hdvs,hm2⟩:=hdv.size_;have Hnv:=hid hnv4;have Hdv:=hid hdv;clear hnv hdv hnv4;subst hnvs hdvs;have hb5:Below w4.heap.size w4 (w4.alloc (.cells #[.bool false,.slice A m c,.slice A2 m2 c2] 69)):=(Below.refl _ _).alloc (Nat.le_refl _) _;have hO5:=ja.make w4 69 [.bool false,.slice A m c,.slice A2 m2 c2];have HO6:=hid (hO4.alloc (.cells #[.bool false,.slice A m c,.slice A2 m2 c2] 69));have hfa:=hid (jp.of_pow (xf hn.1) hDa (by omega));have hfb:=hid (jp.of_pow (xf hd.1) hDb (by omega))
 go_wp2_with fail
 refine(JC _ _ (jf a) (jf b) _ (Hnv.out.below hb5) (Hdv.out.below hb5) hfa.out hfb.out).mono ?_;rintro e w5 ⟨gv,rfl,hgv,hB5⟩
 go_wp2_with fail
 refine(qf _ _ _ hgv).mono ?_;rintro e w6 ⟨rfl,rfl⟩;rw[hg]
 have hs5:w4.heap.size<w5.heap.size:=by have:=hB5.size;simp at this;omega
 have hO7:=HO6.out.below hB5 (by have:=hO4.lt;simp;omega);have hO8:=hO5.below hB5 (by simp);obtain⟨c0,c1,c2',f0,f1,f2⟩:=hO7.three;obtain⟨d0,d1,d2,_,_,_⟩:=hO8.three;have hW5:=hW4.trans ((hb5.trans (hB5.mono hb5.size)).mono hW4.size)
 have hR0:Rt w5 (.agg #[.bool false,.slice A m c,.slice A2 m2 c2]) (j9 false (jf a) (jf b)):=
  Rt.mk_ (Yc hd hb0) (QaL hg) (fun h=>by cases h) ((Hnv.out.below hb5).below hB5) ((Hdv.out.below hb5).below hB5)
 have HR:=hid (hR0.put3 (a':= .bool false) (b':= .slice A m c) (c':= .slice A2 m2 c2) hO7 (ju _) (jr _ _ _) (jr _ _ _) (ju _) (jr _ _ _));clear hR0
 go_wp2
 exact bodyPost_ret (v:= .tuple #[.agg #[.bool false,.slice A m c,.slice A2 m2 c2],.int .i64 0]) (by simp[results,Tryz.results36,go_sem,c0,c1,c2']) rfl ⟨_,rfl,HR.out,((hW5.setCell (by simp) _).setCell (by simp) _).setCell (by simp) _⟩
theorem NW (a b:Int) (hb:b≠0):((a:Rat)/(b:Rat)).num.natAbs≤a.natAbs∧((a:Rat)/(b:Rat)).den≤b.natAbs:=by
 have h:Rat.divInt a b=(a:Rat)/(b:Rat):=Rat.divInt_eq_div a b;obtain⟨m,hm,h1,h2⟩:=Rat.divInt_num_den hb (n':=((a:Rat)/(b:Rat)).num) (d':=((a:Rat)/(b:Rat)).den) (z':=((a:Rat)/(b:Rat)).den_nz) (c:=((a:Rat)/(b:Rat)).reduced) h
 have hm1:1≤m.natAbs:=by omega
 constructor
 ·have:a.natAbs=((a:Rat)/(b:Rat)).num.natAbs*m.natAbs:=by
   conv=>lhs;rw[h1]
   rw[QbB]
  rw[this];exact QbI _ hm1
 ·have:b.natAbs=((a:Rat)/(b:Rat)).den*m.natAbs:=by
   conv=>lhs;rw[h2]
   rw[QbB];rfl
  rw[this];exact QbI _ hm1
theorem E8 (q:Rat):∃s c,ye q = .returned (.tuple #[.string s,.int .i64 c]):=by
 unfold ye;split
 ·exact⟨_,_,rfl⟩
 ·exact⟨_,_,rfl⟩
def GK (a b:Int) (w:World) (e:Ending) (w':World):Prop:=
 (if b=0 then e = .returned (.tuple #[.string ⟨#[]⟩,.int .i64 6]) else e=ye ((a:Rat)/(b:Rat)))∧Below w.heap.size w w'
theorem R3 (a b:Int) (w:World) (ha: -9223372036854775808≤a∧a≤9223372036854775807) (hb: -9223372036854775808≤b∧b≤9223372036854775807) (hG:jK w):
  Calls Tryz.prog 16 #[.int .i64 a,.int .i64 b] w (GK a b w):=by
 by_cases h0:b=0
 ·subst h0
  go_enter Tryz.func16,Tryz.ntmps16
  go_wp2
  go_ret2;exact⟨by rw[if_pos rfl];rfl,Below.refl _ _⟩
 ·have hb0:(b==0)=false:=by simpa using h0
  have hq:(b:Rat)≠0:=by simpa using h0
  obtain⟨p1,p2⟩:=NW a b h0;have f1:jp ((a:Rat)).num.natAbs:=jp.small (by show a.natAbs<WB;unfold WB;omega);have f2:jp ((a:Rat)).den:=jp.small (by show 1<WB;decide);have f3:jp ((b:Rat)).num.natAbs:=jp.small (by show b.natAbs<WB;unfold WB;omega);have f4:jp ((b:Rat)).den:=jp.small (by show 1<WB;decide);have f5:jp ((a:Rat)/(b:Rat)).num.natAbs:=jp.small (by unfold WB;omega);have f6:jp ((a:Rat)/(b:Rat)).den:=jp.small (by unfold WB;omega);have H0:=hid h0;clear h0 p1 p2;go_enter Tryz.func16,Tryz.ntmps16
  go_wp2_with fail
  refine(KX a _ ha.1 ha.2).mono ?_;rintro e w1 ⟨v1,rfl,hv1,hB1⟩
  go_wp2_with fail
  refine(KX b _ hb.1 hb.2).mono ?_;rintro e w2 ⟨v2,rfl,hv2,hB2⟩
  go_wp2_with fail
  refine(GN v1 v2 _ _ _ (hv1.below hB2) hv2 hq f1 f2 f3 f4).mono ?_;rintro e w3 ⟨v3,rfl,hv3,hB3⟩
  go_wp2_with fail
  refine(YI v3 _ _ hv3 f5 f6 (((hG.below hB1).below hB2).below hB3)).mono ?_;rintro e w4 ⟨he,hB4⟩;have hBt:=hB1.trans ((hB2.trans ((hB3.trans (hB4.mono hB3.size)).mono hB2.size)).mono hB1.size)
  have Hif:Hid (∀e,e=ye ((a:Rat)/(b:Rat))→GK a b w e w4):=fun e he=>⟨by rw[if_neg H0.out];exact he,hBt⟩
  obtain⟨s,c,hs⟩:=E8 ((a:Rat)/(b:Rat));rw[hs] at he Hif;subst he;clear hs
  go_wp2
  go_ret2;exact Hif.out _ rfl
theorem On (v:Value) (q:Rat) (w:World) (h:Rt w v q):Calls Tryz.prog 249 #[.agg #[],v] w fun e w'=>e = .returned (.bool (qS q==0))∧Below w.heap.size w w':=by
 obtain⟨sg0,hs0⟩:∃s,qS q=s:=⟨_,rfl⟩
 have SG:=hid (fun wx (h:Rt wx v q)=>hs0 ▸ Ee v q wx h);have Hs:=hid hs0;clear hs0;have HH:=hid h;obtain⟨nv,dv,hv,-,-⟩:=h;generalize decide (q.num<0)=neg at *;have H1:=hid (HH.out.below (((Below.refl _ w).alloc (Nat.le_refl _) (.cells #[] 77))));have H2:=hid (H1.out.below (((Below.refl _ _).alloc (Nat.le_refl _) (.cells #[.bool neg,nv,dv] 69))));subst hv;go_enter Tryz.func249,Tryz.ntmps249
 go_wp2_with fail
 refine(SG.out _ H2.out).mono ?_;rintro e w2 ⟨rfl,hB2⟩;have hBt:=(((Below.refl _ w).alloc (Nat.le_refl _) (.cells #[] 77)).alloc (by simp) (.cells #[.bool neg,nv,dv] 69)).trans (hB2.mono (by simp;omega));clear hB2
 go_wp2
 go_ret;exact⟨by rw[Hs.out];rfl,hBt⟩
theorem Uy (n:Int) (w:World) (h1: -9223372036854775808≤n) (h2:n≤9223372036854775807):Calls Tryz.prog 251 #[.agg #[],.int .i64 n] w (qR (n:Rat) w):=by
 obtain⟨W0,hW0⟩:∃W0,W0=(w.alloc (.cells #[] 77)).alloc (.cells #[.bool false,.slice none 0 0,.slice none 0 0] 69):=⟨_,rfl⟩
 have hB0:Below w.heap.size w W0:=by rw[hW0];exact((Below.refl _ _).alloc (Nat.le_refl _) _).alloc (by simp) _
 have hR:ja W0 (w.heap.size+1) 69 [.bool false,.slice none 0 0,.slice none 0 0]:=by
  rw[hW0];have:=ja.make (w.alloc (.cells #[] 77)) 69 [.bool false,.slice none 0 0,.slice none 0 0];simp only[World.size_alloc] at this;exact this
 have RO:=hid (fun W=>KX n W h1 h2);clear h1 h2;go_enter Tryz.func251,Tryz.ntmps251
 go_upto_region 1 with fail
 rw[←hW0];clear hW0
 go_wp2_with fail
 refine(RO.out _).mono ?_;rintro e w2 ⟨v,rfl,hv,hB2⟩;obtain⟨nv,dv,rfl,hn,hd⟩:=hv;have hR2:=hR.below hB2 hR.lt;have hBt:=hB0.trans (hB2.mono hB0.size);have Hn:=hid (hn.put3 (c':=dv) hR2 (ju _) (jr _ _ _) (jr _ _ _) (ju (decide ((n:Rat).num<0))) hn.noInt);have Hd:=hid (hd.put3 (c':=dv) hR2 (ju _) (jr _ _ _) (jr _ _ _) (ju (decide ((n:Rat).num<0))) hn.noInt);obtain⟨e0,e1,e2,k0,k1,k2⟩:=hR2.three;obtain⟨A1,k1',c1,rfl,_⟩:=hn.size_;obtain⟨A2,k2',c2,rfl,_⟩:=hd.size_;clear hn hd hR hR2 hB2
 have KR:∃ng,Hid (ng=decide ((n:Rat).num<0)):=⟨_,hid rfl⟩
 obtain⟨ng,hng⟩:=KR;rw[←hng.out] at Hn Hd;rw[←hng.out]
 go_wp2
 exact bodyPost_ret (v:= .agg #[.bool ng,.slice A1 k1' c1,.slice A2 k2' c2]) (by simp[results,Tryz.results251,go_sem,e0,e1,e2]) rfl ⟨_,rfl,⟨_,_,by rw[hng.out],Hn.out,Hd.out⟩,((hBt.setCell (by simp) _).setCell (by simp) _).setCell (by simp) _⟩
theorem M0 (v u:Value) (p q:Rat) (w:World) (h:Rt w v p) (h':Rt w u q) (f1:jp p.num.natAbs) (f2:jp p.den) (f3:jp q.num.natAbs) (f4:jp q.den):
  Calls Tryz.prog 253 #[.agg #[],v,u] w (qR (p*q) w):=by
 have RO:=hid (fun W (h:Rt W v p) (h':Rt W u q)=>Md v u p q W h h' f1 f2 f3 f4);clear f1 f2 f3 f4;have HH:=hid h;have HH':=hid h';obtain⟨av,bv,hv,-,-⟩:=h;obtain⟨cv,dv,hu,-,-⟩:=h';generalize decide (p.num<0)=na at hv;generalize decide (q.num<0)=nb at hu
 obtain⟨W0,hW0⟩:∃W0,W0=(((w.alloc (.cells #[] 77)).alloc (.cells #[.bool na,av,bv] 69)).alloc (.cells #[.bool nb,cv,dv] 69)).alloc (.cells #[.bool false,.slice none 0 0,.slice none 0 0] 69):=⟨_,rfl⟩
 have hB0:Below w.heap.size w W0:=by rw[hW0];exact((((Below.refl _ _).alloc (Nat.le_refl _) _).alloc (by simp) _).alloc (by simp;omega) _).alloc (by simp;omega) _
 have hP:ja W0 (w.heap.size+1) 69 [.bool na,av,bv]:=by
  rw[hW0];have:=ja.make (w.alloc (.cells #[] 77)) 69 [.bool na,av,bv];simp only[World.size_alloc] at this;exact(this.alloc _).alloc _
 have hQ:ja W0 (w.heap.size+1+1) 69 [.bool nb,cv,dv]:=by
  rw[hW0];have:=ja.make ((w.alloc (.cells #[] 77)).alloc (.cells #[.bool na,av,bv] 69)) 69 [.bool nb,cv,dv];simp only[World.size_alloc] at this;exact this.alloc _
 have hR:ja W0 (w.heap.size+1+1+1) 69 [.bool false,.slice none 0 0,.slice none 0 0]:=by
  rw[hW0];have:=ja.make (((w.alloc (.cells #[] 77)).alloc (.cells #[.bool na,av,bv] 69)).alloc (.cells #[.bool nb,cv,dv] 69)) 69 [.bool false,.slice none 0 0,.slice none 0 0];simp only[World.size_alloc] at this;exact this
 have HR:=hid hR;obtain⟨c0,c1,c2,_,_,_⟩:=hP.three;obtain⟨d0,d1,d2,_,_,_⟩:=hQ.three;have RX:=hid (RO.out W0 (HH.out.below hB0) (HH'.out.below hB0));clear hP hQ hR RO HH HH';subst hv hu;go_enter Tryz.func253,Tryz.ntmps253
 go_upto_region 1 with fail
 rw[←hW0];clear hW0
 go_wp2_with fail
 refine RX.out.mono ?_;rintro e w2 ⟨v,rfl,hv,hB2⟩;clear c0 c1 c2 d0 d1 d2;obtain⟨nv,ev,rfl,hn,hd⟩:=hv;have hR2:=HR.out.below hB2 HR.out.lt;have hBt:=hB0.trans (hB2.mono hB0.size);have Hn:=hid (hn.put3 (c':=ev) hR2 (ju _) (jr _ _ _) (jr _ _ _) (ju (decide ((p*q).num<0))) hn.noInt);have Hd:=hid (hd.put3 (c':=ev) hR2 (ju _) (jr _ _ _) (jr _ _ _) (ju (decide ((p*q).num<0))) hn.noInt);obtain⟨e0,e1,e2,k0,k1,k2⟩:=hR2.three;obtain⟨A1,k1',c1,rfl,_⟩:=hn.size_;obtain⟨A2,k2',c2,rfl,_⟩:=hd.size_;clear hn hd hR2 hB2 RX HR
 have KR:∃ng,Hid (ng=decide ((p*q).num<0)):=⟨_,hid rfl⟩
 obtain⟨ng,hng⟩:=KR;rw[←hng.out] at Hn Hd;rw[←hng.out]
 go_wp2
 exact bodyPost_ret (v:= .agg #[.bool ng,.slice A1 k1' c1,.slice A2 k2' c2]) (by simp[results,Tryz.results253,go_sem,e0,e1,e2]) rfl ⟨_,rfl,⟨_,_,by rw[hng.out],Hn.out,Hd.out⟩,((hBt.setCell (by simp;omega) _).setCell (by simp;omega) _).setCell (by simp;omega) _⟩
theorem Oo (v u:Value) (p q:Rat) (w:World) (h:Rt w v p) (h':Rt w u q) (hq0:q≠0) (f1:jp p.num.natAbs) (f2:jp p.den) (f3:jp q.num.natAbs) (f4:jp q.den):
  Calls Tryz.prog 252 #[.agg #[],v,u] w (qR (p/q) w):=by
 have RO:=hid (fun W (h:Rt W v p) (h':Rt W u q)=>GN v u p q W h h' hq0 f1 f2 f3 f4);clear f1 f2 f3 f4 hq0;have HH:=hid h;have HH':=hid h';obtain⟨av,bv,hv,-,-⟩:=h;obtain⟨cv,dv,hu,-,-⟩:=h';generalize decide (p.num<0)=na at hv;generalize decide (q.num<0)=nb at hu
 obtain⟨W0,hW0⟩:∃W0,W0=(((w.alloc (.cells #[] 77)).alloc (.cells #[.bool na,av,bv] 69)).alloc (.cells #[.bool nb,cv,dv] 69)).alloc (.cells #[.bool false,.slice none 0 0,.slice none 0 0] 69):=⟨_,rfl⟩
 have hB0:Below w.heap.size w W0:=by rw[hW0];exact((((Below.refl _ _).alloc (Nat.le_refl _) _).alloc (by simp) _).alloc (by simp;omega) _).alloc (by simp;omega) _
 have hP:ja W0 (w.heap.size+1) 69 [.bool na,av,bv]:=by
  rw[hW0];have:=ja.make (w.alloc (.cells #[] 77)) 69 [.bool na,av,bv];simp only[World.size_alloc] at this;exact(this.alloc _).alloc _
 have hQ:ja W0 (w.heap.size+1+1) 69 [.bool nb,cv,dv]:=by
  rw[hW0];have:=ja.make ((w.alloc (.cells #[] 77)).alloc (.cells #[.bool na,av,bv] 69)) 69 [.bool nb,cv,dv];simp only[World.size_alloc] at this;exact this.alloc _
 have hR:ja W0 (w.heap.size+1+1+1) 69 [.bool false,.slice none 0 0,.slice none 0 0]:=by
  rw[hW0];have:=ja.make (((w.alloc (.cells #[] 77)).alloc (.cells #[.bool na,av,bv] 69)).alloc (.cells #[.bool nb,cv,dv] 69)) 69 [.bool false,.slice none 0 0,.slice none 0 0];simp only[World.size_alloc] at this;exact this
 have HR:=hid hR;obtain⟨c0,c1,c2,_,_,_⟩:=hP.three;obtain⟨d0,d1,d2,_,_,_⟩:=hQ.three;have RX:=hid (RO.out W0 (HH.out.below hB0) (HH'.out.below hB0));clear hP hQ hR RO HH HH';subst hv hu;go_enter Tryz.func252,Tryz.ntmps252
 go_upto_region 1 with fail
 rw[←hW0];clear hW0
 go_wp2_with fail
 refine RX.out.mono ?_;rintro e w2 ⟨v,rfl,hv,hB2⟩;clear c0 c1 c2 d0 d1 d2;obtain⟨nv,ev,rfl,hn,hd⟩:=hv;have hR2:=HR.out.below hB2 HR.out.lt;have hBt:=hB0.trans (hB2.mono hB0.size);have Hn:=hid (hn.put3 (c':=ev) hR2 (ju _) (jr _ _ _) (jr _ _ _) (ju (decide ((p/q).num<0))) hn.noInt);have Hd:=hid (hd.put3 (c':=ev) hR2 (ju _) (jr _ _ _) (jr _ _ _) (ju (decide ((p/q).num<0))) hn.noInt);obtain⟨e0,e1,e2,k0,k1,k2⟩:=hR2.three;obtain⟨A1,k1',c1,rfl,_⟩:=hn.size_;obtain⟨A2,k2',c2,rfl,_⟩:=hd.size_;clear hn hd hR2 hB2 RX HR
 have KR:∃ng,Hid (ng=decide ((p/q).num<0)):=⟨_,hid rfl⟩
 obtain⟨ng,hng⟩:=KR;rw[←hng.out] at Hn Hd;rw[←hng.out]
 go_wp2
 exact bodyPost_ret (v:= .agg #[.bool ng,.slice A1 k1' c1,.slice A2 k2' c2]) (by simp[results,Tryz.results252,go_sem,e0,e1,e2]) rfl ⟨_,rfl,⟨_,_,by rw[hng.out],Hn.out,Hd.out⟩,((hBt.setCell (by simp;omega) _).setCell (by simp;omega) _).setCell (by simp;omega) _⟩
