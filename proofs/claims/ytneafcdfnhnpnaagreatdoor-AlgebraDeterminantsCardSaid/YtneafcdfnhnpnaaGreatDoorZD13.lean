/- Contract: the number that a text stands for; the texts of numbers. -/
import Derived.Test.YtneafcdfnhnpnaaGreatDoorZD10
import Derived.Test.YtneafcdfnhnpnaaGreatDoorZD11
set_option maxRecDepth 100000
set_option maxHeartbeats 4000000
namespace Go.Proofs.YtneafcdfnhnpnaaGreatDoor
open Go.RowKit Go.Lib
theorem Sv {l:List UInt8} (h:j3 l) (h0:l≠[]) (h1:l.head? ≠some 48):jf l≠0:=by
 cases l with
 | nil=>exact absurd rfl h0
 | cons c r=>
  have e:=Jo [c] r;rw[show jf [c]=c.toNat-48 from by rw[jf,zu,y4];omega] at e;have h2:=h c (by simp)
  have h3:c.toNat≠48:=by
   intro hc;apply h1;simp only[List.head?_cons]
   congr 1
   exact UInt8.toNat_inj.1 hc
  have h4:1*10^r.length≤(c.toNat-48)*10^r.length:=Nat.mul_le_mul_right _ (by omega);have h5:1≤10^r.length:=Nat.one_le_pow _ _ (by decide);have h6:[c]++r=c::r:=rfl;rw[h6] at e;omega
theorem Xl {l:List UInt8} (h:jD l) (h0:(l==[48])=false):jf l≠0:=by
 rcases h.2 with h1 | ⟨h1,h2⟩
 ·rw[h1] at h0;simp at h0
 ·exact Sv h.1 h1 h2
theorem Ct (l dg a b:List UInt8) (w:World) (h1:hasPrefix l [45]=true) (h2:trimPrefix l [45]=dg) (h3:cut dg [47]=(a,b,false)) (hdl:dg.length<4294967281) (hal:a.length<4294967281) (hG:jN w) (hDa:qt a.length)
  (hn:jD a) (hz:(a==[48])=false) (hb:b=[]) (hlen:a.length≤600):Calls Tryz.prog 102 #[.string ⟨l.toArray⟩] w (z7 (j4 true (jf a) 1) w):=by
 go_enter Tryz.func102,Tryz.ntmps102
 go_wp2_with fail
 refine(kY l dg true _ h1 h2).mono ?_;rintro e w' ⟨rfl,rfl⟩
 go_wp2_with fail
 refine(kZ dg a b false _ h3 hdl (hG.below ((Below.refl _ _).alloc (Nat.le_refl _) _))).mono ?_;rintro e w' ⟨rfl,n,rfl⟩
 go_wp2_with fail
 refine(ky a _ hn hal).mono ?_;rintro e w1 ⟨rfl,hB1⟩
 have hO1:=(((ja.make w 122 [.bool false,.slice none 0 0,.slice none 0 0]).drewN n).below hB1 (by simp))
 have hW1:Below w.heap.size w w1:=(below_drewN ((Below.refl w.heap.size w).alloc (Nat.le_refl _) _) n).trans (hB1.mono (by simp));have Hb:=hid hb;clear hb
 go_wp2_with fail
 refine(ze a _ hn.1 (by omega) hDa).mono ?_;rintro e w2 ⟨nv,rfl,hnv,hB2⟩
 have hO2:=(hO1.below hB2 hO1.lt)
 have hW2:=hW1.trans (hB2.mono hW1.size);have hnv2:=hnv.below ((Below.refl _ w2).alloc (Nat.le_refl _) (.cells #[.int .u64 1] 148));have hO3:=hO2.alloc (.cells #[.int .u64 1] 148);have hone:=Nt.one w2 148;obtain⟨c0,c1,c2,f0,f1,f2⟩:=hO3.three
 have hR:Rt ((((w2.alloc (.cells #[.int .u64 1] 148)).setCell ⟨w.heap.size,0,none⟩ (.bool true)).setCell ⟨w.heap.size,1,none⟩ nv).setCell ⟨w.heap.size,2,none⟩ (.slice (some ⟨w2.heap.size,0,none⟩) 1 1)) (.agg #[.bool true,nv,.slice (some ⟨w2.heap.size,0,none⟩) 1 1]) (j4 true (jf a) 1):=
  Rt.mk_ (by decide) (Nat.gcd_one_right _) (fun _=>Xl hn hz) (hnv2.put3 hO3 (js _) (jq _ _ _) (jq _ _ _) (js _) hnv.noInt) (hone.put3 hO3 (js _) (jq _ _ _) (jq _ _ _) (js _) hnv.noInt)
 obtain⟨A,m,c,hnvs,hm⟩:=hnv.size_;have HR:=hid hR;clear hR hone hnv hnv2;subst hnvs
 go_wp2
 exact bodyPost_ret (v:= .tuple #[.agg #[.bool true,.slice A m c,.slice (some ⟨w2.heap.size,0,none⟩) 1 1],.int .i64 0]) (by simp[results,Tryz.results102,go_sem,c0,c1,c2]) rfl ⟨_,rfl,HR.out,(((hW2.alloc hW2.size _).setCell (by simp) _).setCell (by simp) _).setCell (by simp) _⟩
theorem Cu (l dg a b:List UInt8) (w:World) (h1:hasPrefix l [45]=false) (h2:trimPrefix l [45]=dg) (h3:cut dg [47]=(a,b,false)) (hdl:dg.length<4294967281) (hal:a.length<4294967281) (hG:jN w) (hDa:qt a.length)
  (hn:jD a) (hb:b=[]) (hlen:a.length≤600):Calls Tryz.prog 102 #[.string ⟨l.toArray⟩] w (z7 (j4 false (jf a) 1) w):=by
 go_enter Tryz.func102,Tryz.ntmps102
 go_wp2_with fail
 refine(kY l dg false _ h1 h2).mono ?_;rintro e w' ⟨rfl,rfl⟩
 go_wp2_with fail
 refine(kZ dg a b false _ h3 hdl (hG.below ((Below.refl _ _).alloc (Nat.le_refl _) _))).mono ?_;rintro e w' ⟨rfl,n,rfl⟩
 go_wp2_with fail
 refine(ky a _ hn hal).mono ?_;rintro e w1 ⟨rfl,hB1⟩
 have hO1:=(((ja.make w 122 [.bool false,.slice none 0 0,.slice none 0 0]).drewN n).below hB1 (by simp))
 have hW1:Below w.heap.size w w1:=(below_drewN ((Below.refl w.heap.size w).alloc (Nat.le_refl _) _) n).trans (hB1.mono (by simp));have Hb:=hid hb;clear hb
 go_wp2_with fail
 refine(ze a _ hn.1 (by omega) hDa).mono ?_;rintro e w2 ⟨nv,rfl,hnv,hB2⟩
 have hO2:=(hO1.below hB2 hO1.lt)
 have hW2:=hW1.trans (hB2.mono hW1.size);have hnv2:=hnv.below ((Below.refl _ w2).alloc (Nat.le_refl _) (.cells #[.int .u64 1] 148));have hO3:=hO2.alloc (.cells #[.int .u64 1] 148);have hone:=Nt.one w2 148;obtain⟨c0,c1,c2,f0,f1,f2⟩:=hO3.three
 have hR:Rt ((((w2.alloc (.cells #[.int .u64 1] 148)).setCell ⟨w.heap.size,0,none⟩ (.bool false)).setCell ⟨w.heap.size,1,none⟩ nv).setCell ⟨w.heap.size,2,none⟩ (.slice (some ⟨w2.heap.size,0,none⟩) 1 1)) (.agg #[.bool false,nv,.slice (some ⟨w2.heap.size,0,none⟩) 1 1]) (j4 false (jf a) 1):=
  Rt.mk_ (by decide) (Nat.gcd_one_right _) (fun h=>by cases h) (hnv2.put3 hO3 (js _) (jq _ _ _) (jq _ _ _) (js _) hnv.noInt) (hone.put3 hO3 (js _) (jq _ _ _) (jq _ _ _) (js _) hnv.noInt)
 obtain⟨A,m,c,hnvs,hm⟩:=hnv.size_;have HR:=hid hR;clear hR hone hnv hnv2;subst hnvs
 go_wp2
 exact bodyPost_ret (v:= .tuple #[.agg #[.bool false,.slice A m c,.slice (some ⟨w2.heap.size,0,none⟩) 1 1],.int .i64 0]) (by simp[results,Tryz.results102,go_sem,c0,c1,c2]) rfl ⟨_,rfl,HR.out,(((hW2.alloc hW2.size _).setCell (by simp) _).setCell (by simp) _).setCell (by simp) _⟩
theorem Ae (neg:Bool) (n d:Nat): -j4 neg n d=j4 ((!neg)&&decide (0<n)) n d:=by
 rw[zc,zc,Rat.neg_mkRat]
 congr 1
 by_cases h:n=0
 ·subst h;cases neg <;> simp[sg]
 ·rw[decide_eq_true (Nat.pos_of_ne_zero h)];cases neg <;> simp[sg]
theorem Dh (neg:Bool) (n d:Nat):(j4 neg n d)⁻¹=j4 neg d n:=by
 rw[zc,zc,←Rat.divInt_ofNat,←Rat.divInt_ofNat,Rat.inv_divInt];cases neg
 ·rfl
 ·show Rat.divInt (d:Int) (-(n:Int))=Rat.divInt (-(d:Int)) n
  rw[Rat.divInt_neg']
theorem Rr (w:World) (a b c:Value):∃W0,W0=(w.alloc (.cells #[a,b,c] 122)).alloc (.cells #[.bool false,.slice none 0 0,.slice none 0 0] 122) ∧
  ja W0 w.heap.size 122 [a,b,c]∧ja W0 (w.heap.size+1) 122 [.bool false,.slice none 0 0,.slice none 0 0]∧Below w.heap.size w W0∧w.heap.size+1<W0.heap.size:=by
 refine⟨_,rfl,(ja.make w _ [a,b,c]).alloc _,?_,((Below.refl _ _).alloc (Nat.le_refl _) _).alloc (by simp) _,by simp⟩;have:=ja.make (w.alloc (.cells #[a,b,c] 122)) 122 [.bool false,.slice none 0 0,.slice none 0 0];simp only[World.size_alloc] at this;exact this
theorem Uy (w:World) (a b c a' b' c':Value):∃W0,W0=((w.alloc (.cells #[a,b,c] 122)).alloc (.cells #[a',b',c'] 122)).alloc (.cells #[.bool false,.slice none 0 0,.slice none 0 0] 122) ∧
  ja W0 w.heap.size 122 [a,b,c]∧ja W0 (w.heap.size+1) 122 [a',b',c']∧ja W0 (w.heap.size+1+1) 122 [.bool false,.slice none 0 0,.slice none 0 0]∧Below w.heap.size w W0∧w.heap.size+1+1<W0.heap.size:=by
 refine⟨_,rfl,((ja.make w _ [a,b,c]).alloc _).alloc _,?_,?_,(((Below.refl _ _).alloc (Nat.le_refl _) _).alloc (by simp) _).alloc (by simp;omega) _,by simp⟩
 ·have:=ja.make (w.alloc (.cells #[a,b,c] 122)) 122 [a',b',c']
  simp only[World.size_alloc] at this;exact this.alloc _
 ·have:=ja.make ((w.alloc (.cells #[a,b,c] 122)).alloc (.cells #[a',b',c'] 122)) 122 [.bool false,.slice none 0 0,.slice none 0 0]
  simp only[World.size_alloc] at this;exact this
theorem Af (v:Value) (q:Rat) (w:World) (h:Rt w v q):Calls Tryz.prog 179 #[v] w (qE (-q) w):=by
 obtain⟨neg,nv,dv,n,d,rfl,h1,h2,hd,hc,hnn,hq,z1,z2,z3⟩:=h.open_;clear z1 z2 z3;obtain⟨W0,hW0,hP,hR,hB0,hs0⟩:=Rr w (.bool neg) nv dv
 have key:∀ng:Bool,ng=((!neg)&&decide (0<n))→Hid (Rt (((W0.setCell ⟨w.heap.size+1,0,none⟩ (.bool ng)).setCell ⟨w.heap.size+1,1,none⟩ nv).setCell ⟨w.heap.size+1,2,none⟩ dv) (.agg #[.bool ng,nv,dv]) (-q)):=by
  intro ng hng;apply hid;rw[hq,Ae,←hng]
  refine Rt.mk_ hd hc ?_ ((h1.below hB0).put3 hR (js _) (jq _ _ _) (jq _ _ _) (js _) h1.noInt) ((h2.below hB0).put3 hR (js _) (jq _ _ _) (jq _ _ _) (js _) h1.noInt)
  intro e hz;rw[hng,hz] at e;simp at e
 have Key:=hid key;obtain⟨A2,k2,c2,hdv,_⟩:=h2.size_;obtain⟨c0,c1,c2',_,_,_⟩:=hP.three;obtain⟨e0,e1,e2,k0,k1,k2'⟩:=hR.three;clear key hd hc hnn hq h hP hR;by_cases hz:n=0
 ·obtain⟨A,cc,hnv⟩:=Nt.zero_len (hz ▸ h1)
  rw[hz] at Key;clear h1 h2 hz;subst hnv hdv;have KR:=Key.out false (by cases neg <;> rfl);clear Key;cases neg
  all_goals
   go_enter Tryz.func179,Tryz.ntmps179
   go_upto_region 1 with fail
   rw[←hW0];clear hW0
   go_wp2
   exact bodyPost_ret (v:= .agg #[.bool false,.slice A 0 cc,.slice A2 k2 c2]) (by simp[results,Tryz.results179,go_sem,e0,e1,e2]) rfl ⟨_,rfl,KR.out,((hB0.setCell (by simp) _).setCell (by simp) _).setCell (by simp) _⟩
 ·obtain⟨A,kk,cc,hnv,hkk,hkm⟩:=h1.pos_len hz
  rw[decide_eq_true (Nat.pos_of_ne_zero hz)] at Key;clear h1 h2 hz;subst hnv hdv;cases neg
  ·have KR:=Key.out true rfl
   go_enter Tryz.func179,Tryz.ntmps179
   go_upto_region 1 with fail
   rw[←hW0];clear hW0
   go_wp2
   exact bodyPost_ret (v:= .agg #[.bool true,.slice A kk cc,.slice A2 k2 c2]) (by simp[results,Tryz.results179,go_sem,e0,e1,e2]) rfl ⟨_,rfl,KR.out,((hB0.setCell (by simp) _).setCell (by simp) _).setCell (by simp) _⟩
  ·have KR:=Key.out false rfl
   go_enter Tryz.func179,Tryz.ntmps179
   go_upto_region 1 with fail
   rw[←hW0];clear hW0
   go_wp2
   exact bodyPost_ret (v:= .agg #[.bool false,.slice A kk cc,.slice A2 k2 c2]) (by simp[results,Tryz.results179,go_sem,e0,e1,e2]) rfl ⟨_,rfl,KR.out,((hB0.setCell (by simp) _).setCell (by simp) _).setCell (by simp) _⟩
def qM (q:Rat):Int:=if q.num=0 then 0 else if q.num<0 then -1 else 1
theorem GP (v:Value) (q:Rat) (w:World) (h:Rt w v q):Calls Tryz.prog 114 #[v] w fun e w'=>e = .returned (.int .i64 (qM q))∧Below w.heap.size w w':=by
 obtain⟨neg,nv,dv,n,d,rfl,h1,h2,z1,z2,z3,z4,hneg,hn,z5⟩:=h.open_;clear z1 z2 z3 z4 z5;by_cases hz:n=0
 ·obtain⟨A,cc,hnv⟩:=Nt.zero_len (hz ▸ h1)
  have hs:qM q=0:=by unfold qM;rw[if_pos (by omega)]
  have Hs:=hid hs;clear h1 h2 hz h hneg hn hs;subst hnv;go_enter Tryz.func114,Tryz.ntmps114
  go_wp2
  go_ret;exact⟨by rw[Hs.out];rfl,(Below.refl _ _).alloc (Nat.le_refl _) _⟩
 ·obtain⟨A,kk,cc,hnv,hkk,hkm⟩:=h1.pos_len hz
  have hb:((kk:Int)==0)=false:=by simpa using (by omega:¬(kk:Int)=0)
  cases neg
  ·have hs:qM q=1:=by
    have:=of_decide_eq_false hneg.symm;unfold qM;rw[if_neg (by omega),if_neg this]
   have Hs:=hid hs;clear h1 h2 hz h hneg hn hs;subst hnv;go_enter Tryz.func114,Tryz.ntmps114
   go_wp2
   go_ret;exact⟨by rw[Hs.out];rfl,(Below.refl _ _).alloc (Nat.le_refl _) _⟩
  ·have hs:qM q = -1:=by
    have:=of_decide_eq_true hneg.symm;unfold qM;rw[if_neg (by omega),if_pos this]
   have Hs:=hid hs;clear h1 h2 hz h hneg hn hs;subst hnv;go_enter Tryz.func114,Tryz.ntmps114
   go_wp2
   go_ret;exact⟨by rw[Hs.out];rfl,(Below.refl _ _).alloc (Nat.le_refl _) _⟩
theorem Ke (n:Int) (w:World) (h1: -9223372036854775808≤n) (h2:n≤9223372036854775807):Calls Tryz.prog 125 #[.int .i64 n] w (qE (n:Rat) w):=by
 have hO:=ja.make w 122 [.bool false,.slice none 0 0,.slice none 0 0];have hB:Below w.heap.size w (w.alloc (.cells #[.bool false,.slice none 0 0,.slice none 0 0] 122)):=(Below.refl _ _).alloc (Nat.le_refl _) _
 obtain⟨W0,hW0⟩:∃W0,W0=w.alloc (.cells #[.bool false,.slice none 0 0,.slice none 0 0] 122):=⟨_,rfl⟩
 have hs:w.heap.size<W0.heap.size:=by rw[hW0];simp
 change ja (w.alloc (.cells #[.bool false,.slice none 0 0,.slice none 0 0] 122)) _ _ _ at hO;rw[←hW0] at hO hB
 have ha:n.natAbs<WB:=by unfold WB;omega
 have hq:(n:Rat)=j4 (decide (n<0)) n.natAbs 1:=by
  rw[zc];by_cases h:n<0
  ·rw[decide_eq_true h];show _=mkRat (-(n.natAbs:Int)) 1;rw[show -(n.natAbs:Int)=n from by omega];exact(Rat.mkRat_one n).symm
  ·rw[decide_eq_false h];show _=mkRat (n.natAbs:Int) 1;rw[show (n.natAbs:Int)=n from by omega];exact(Rat.mkRat_one n).symm
 have Hq:=hid hq;clear hq;go_enter Tryz.func125,Tryz.ntmps125
 go_upto_region 1 with fail
 rw[←hW0];clear hW0
 go_wp2_with (go_at_call 131;refine(VM _ _ h1 h2).mono ?_;rintro e w' ⟨rfl,rfl⟩)
 refine(Jy n.natAbs _ ha).mono ?_;rintro e w2 ⟨nv,rfl,hnv,hB2⟩;have hO2:=(hO.below hB2 hs).alloc (.cells #[.int .u64 1] 148);have hnv2:=hnv.below ((Below.refl _ w2).alloc (Nat.le_refl _) (.cells #[.int .u64 1] 148));have hone:=Nt.one w2 148;have hW2:=(hB.trans (hB2.mono hB.size)).alloc (Nat.le_trans hB.size hB2.size) (.cells #[.int .u64 1] 148)
 have hR:=Rt.mk_ (neg:=decide (n<0)) (by decide:(1:Nat)≠0) (Nat.gcd_one_right n.natAbs) (by intro h;have:=of_decide_eq_true h;omega)
  (hnv2.put3 (a':= .bool (decide (n<0))) (b':=nv) (c':= .slice (some ⟨w2.heap.size,0,none⟩) 1 1) hO2 (js _) (jq _ _ _) (jq _ _ _) (js _) hnv.noInt)
  (hone.put3 (a':= .bool (decide (n<0))) (b':=nv) (c':= .slice (some ⟨w2.heap.size,0,none⟩) 1 1) hO2 (js _) (jq _ _ _) (jq _ _ _) (js _) hnv.noInt)
 rw[←Hq.out] at hR;have HR:=hid hR;have HW:=hid hW2;obtain⟨A,kk,cc,hnvs,_⟩:=hnv.size_;obtain⟨e0,e1,e2,k0,k1,k2⟩:=hO2.three;clear hR hone hnv hnv2 hO2 hW2 h1 h2 ha;generalize decide (n<0)=ng at *;subst hnvs
 go_wp2
 exact bodyPost_ret (v:= .agg #[.bool ng,.slice A kk cc,.slice (some ⟨w2.heap.size,0,none⟩) 1 1]) (by simp[results,Tryz.results125,go_sem,e0,e1,e2]) rfl ⟨_,rfl,HR.out,((HW.out.setCell (by simp) _).setCell (by simp) _).setCell (by simp) _⟩
theorem Wm (v u:Value) (p q:Rat) (w:World) (h:Rt w v p) (h':Rt w u q) (hq0:q≠0) (f1:jl p.num.natAbs) (f2:jl p.den) (f3:jl q.num.natAbs) (f4:jl q.den):
  Calls Tryz.prog 112 #[v,u] w (qE (p/q) w):=by
 obtain⟨na,nv,dv,n,d,rfl,h1,h2,hd,hc1,hna,hp,z1,z2,z3⟩:=h.open_;obtain⟨nb,mv,ev,m,e,rfl,h3,h4,he,hc2,hnb,hq,y1,y2,y3⟩:=h'.open_
 have hm0:m≠0:=by
  intro hm;apply hq0;rw[hq,hm,zc];cases nb <;> simp[sg]
 obtain⟨W0,hW0,hP,hQ,hR,hB0,hs0⟩:=Uy w (.bool na) nv dv (.bool nb) mv ev;have hcall:=WT na nb nv dv ev mv n d e m W0 (h1.below hB0) (h2.below hB0) (h4.below hB0) (h3.below hB0) hd hm0 (z2 ▸ f1) (z3 ▸ f2) (y3 ▸ f4) (y2 ▸ f3) hc1 (by rw[Nat.gcd_comm];exact hc2);rw[←hp,←Dh nb m e,←hq,←Rat.div_def] at hcall;have Hcall:=hid hcall;obtain⟨A,k1,c1,hnv,_⟩:=h1.size_;obtain⟨A2,k2,c2,hdv,_⟩:=h2.size_;obtain⟨A3,k3,c3,hmv,_⟩:=h3.size_;obtain⟨A4,k4,c4,hev,_⟩:=h4.size_;clear hcall z1 z2 z3 y1 y2 y3 hq hp hc1 hc2 hna hnb h h' h1 h2 h3 h4 f1 f2 f3 f4 hd he hm0 hq0;subst hnv hdv hmv hev;obtain⟨a0,a1,a2,_,_,_⟩:=hP.three;obtain⟨b0,b1,b2,_,_,_⟩:=hQ.three;go_enter Tryz.func112,Tryz.ntmps112
 go_upto_region 1 with fail
 rw[←hW0];clear hW0
 go_wp2_with fail
 refine Hcall.out.mono ?_;rintro e w1 ⟨v,rfl,hv,hB1⟩;obtain⟨nv1,dv1,hvs,g1,g2⟩:=hv;obtain⟨A5,k5,c5,hnv1,_⟩:=g1.size_;obtain⟨A6,k6,c6,hdv1,_⟩:=g2.size_;have hR1:=hR.below hB1 hs0
 have hv2:Rt w1 (.agg #[.bool (decide ((p/q).num<0)),nv1,dv1]) (p/q):=⟨nv1,dv1,rfl,g1,g2⟩
 have HV:=hid (hv2.put3 (a':= .bool (decide ((p/q).num<0))) (b':=nv1) (c':=dv1) hR1 (js _) (jq _ _ _) (jq _ _ _) (js _) g1.noInt);obtain⟨e0,e1,e2,k0,k1',k2'⟩:=hR1.three;have hWt:=hB0.trans (hB1.mono hB0.size);clear g1 g2 hR1 hv2 hP hQ hR;generalize decide ((p/q).num<0)=ng at *;subst hvs hnv1 hdv1
 go_wp2
 exact bodyPost_ret (v:= .agg #[.bool ng,.slice A5 k5 c5,.slice A6 k6 c6]) (by simp[results,Tryz.results112,go_sem,e0,e1,e2]) rfl ⟨_,rfl,HV.out,((hWt.setCell (by simp;omega) _).setCell (by simp;omega) _).setCell (by simp;omega) _⟩
theorem Cq (l dg a b:List UInt8) (w:World) (h1:hasPrefix l [45]=true) (h2:trimPrefix l [45]=dg) (h3:cut dg [47]=(a,b,true)) (hdl:dg.length<4294967281) (hal:a.length<4294967281) (hbl:b.length<4294967281) (hG:jN w) (hDa:qt a.length) (hDb:qt b.length)
  (hn:jD a) (hz:(a==[48])=false) (hd:jD b) (hb0:(b==[48])=false) (hb1:(b==[49])=false) (hlen:a.length≤600) (hlen2:b.length≤600) (hg:decide (Nat.gcd (jf a) (jf b)=1)=false):Calls Tryz.prog 102 #[.string ⟨l.toArray⟩] w (qa 1 w):=by
 go_enter Tryz.func102,Tryz.ntmps102
 go_wp2_with fail
 refine(kY l dg true _ h1 h2).mono ?_;rintro e w' ⟨rfl,rfl⟩
 go_wp2_with fail
 refine(kZ dg a b true _ h3 hdl (hG.below ((Below.refl _ _).alloc (Nat.le_refl _) _))).mono ?_;rintro e w' ⟨rfl,n,rfl⟩
 go_wp2_with fail
 refine(ky a _ hn hal).mono ?_;rintro e w1 ⟨rfl,hB1⟩
 have hO1:=(((ja.make w 122 [.bool false,.slice none 0 0,.slice none 0 0]).drewN n).below hB1 (by simp))
 have hW1:Below w.heap.size w w1:=(below_drewN ((Below.refl w.heap.size w).alloc (Nat.le_refl _) _) n).trans (hB1.mono (by simp))
 go_wp2_with fail
 refine(ky b _ hd hbl).mono ?_;rintro e w2 ⟨rfl,hB2⟩;replace hO1:=hO1.below hB2 (hO1.lt);replace hW1:=hW1.trans (hB2.mono hW1.size)
 go_wp2_with fail
 refine(ze a _ hn.1 (by omega) hDa).mono ?_;rintro e w3 ⟨nv,rfl,hnv,hB3⟩
 go_wp2_with fail
 refine(ze b _ hd.1 (by omega) hDb).mono ?_;rintro e w4 ⟨dv,rfl,hdv,hB4⟩;have hnv4:=hnv.below hB4;have hO4:=(hO1.below hB3 hO1.lt).below hB4 (Nat.lt_of_lt_of_le hO1.lt hB3.size);have hW4:=(hW1.trans (hB3.mono hW1.size)).trans (hB4.mono (Nat.le_trans hW1.size hB3.size));obtain⟨A,m,c,hnvs,hm⟩:=hnv4.size_;obtain⟨A2,m2,c2,hdvs,hm2⟩:=hdv.size_;have Hnv:=hid hnv4;have Hdv:=hid hdv;clear hnv hdv hnv4;subst hnvs hdvs;have hb5:Below w4.heap.size w4 (w4.alloc (.cells #[.bool true,.slice A m c,.slice A2 m2 c2] 122)):=(Below.refl _ _).alloc (Nat.le_refl _) _;have hO5:=ja.make w4 122 [.bool true,.slice A m c,.slice A2 m2 c2];have HO6:=hid (hO4.alloc (.cells #[.bool true,.slice A m c,.slice A2 m2 c2] 122));have hfa:=hid (jl.of_pow (qP hn.1) hDa (by omega));have hfb:=hid (jl.of_pow (qP hd.1) hDb (by omega))
 go_wp2_with fail
 refine(zW _ _ (jf a) (jf b) _ (Hnv.out.below hb5) (Hdv.out.below hb5) hfa.out hfb.out).mono ?_;rintro e w5 ⟨gv,rfl,hgv,hB5⟩
 go_wp2_with fail
 refine(kU _ _ _ hgv).mono ?_;rintro e w6 ⟨rfl,rfl⟩;rw[hg]
 have hs5:w4.heap.size<w5.heap.size:=by have:=hB5.size;simp at this;omega
 have hO7:=HO6.out.below hB5 (by have:=hO4.lt;simp;omega);obtain⟨c0,c1,c2',f0,f1,f2⟩:=hO7.three;have hW5:=hW4.trans ((hb5.trans (hB5.mono hb5.size)).mono hW4.size)
 go_wp2
 exact bodyPost_ret (v:= .tuple #[j6,.int .i64 1]) (by simp[results,Tryz.results102,go_sem,c0,c1,c2',j6]) rfl ⟨rfl,((hW5.setCell (by simp) _).setCell (by simp) _).setCell (by simp) _⟩
theorem Cg (l dg a b:List UInt8) (w:World) (h1:hasPrefix l [45]=true) (h2:trimPrefix l [45]=dg) (h3:cut dg [47]=(a,b,true)) (hdl:dg.length<4294967281) (hal:a.length<4294967281) (hbl:b.length<4294967281) (hG:jN w) (hDa:qt a.length) (hDb:qt b.length)
  (hn:jD a) (hz:(a==[48])=false) (hd:jD b) (hb0:(b==[48])=false) (hb1:(b==[49])=false) (hlen:a.length≤600) (hlen2:b.length≤600) (hg:decide (Nat.gcd (jf a) (jf b)=1)=true):Calls Tryz.prog 102 #[.string ⟨l.toArray⟩] w (z7 (j4 true (jf a) (jf b)) w):=by
 go_enter Tryz.func102,Tryz.ntmps102
 go_wp2_with fail
 refine(kY l dg true _ h1 h2).mono ?_;rintro e w' ⟨rfl,rfl⟩
 go_wp2_with fail
 refine(kZ dg a b true _ h3 hdl (hG.below ((Below.refl _ _).alloc (Nat.le_refl _) _))).mono ?_;rintro e w' ⟨rfl,n,rfl⟩
 go_wp2_with fail
 refine(ky a _ hn hal).mono ?_;rintro e w1 ⟨rfl,hB1⟩
 have hO1:=(((ja.make w 122 [.bool false,.slice none 0 0,.slice none 0 0]).drewN n).below hB1 (by simp))
 have hW1:Below w.heap.size w w1:=(below_drewN ((Below.refl w.heap.size w).alloc (Nat.le_refl _) _) n).trans (hB1.mono (by simp))
 go_wp2_with fail
 refine(ky b _ hd hbl).mono ?_;rintro e w2 ⟨rfl,hB2⟩;replace hO1:=hO1.below hB2 (hO1.lt);replace hW1:=hW1.trans (hB2.mono hW1.size)
 go_wp2_with fail
 refine(ze a _ hn.1 (by omega) hDa).mono ?_;rintro e w3 ⟨nv,rfl,hnv,hB3⟩
 go_wp2_with fail
 refine(ze b _ hd.1 (by omega) hDb).mono ?_;rintro e w4 ⟨dv,rfl,hdv,hB4⟩;have hnv4:=hnv.below hB4;have hO4:=(hO1.below hB3 hO1.lt).below hB4 (Nat.lt_of_lt_of_le hO1.lt hB3.size);have hW4:=(hW1.trans (hB3.mono hW1.size)).trans (hB4.mono (Nat.le_trans hW1.size hB3.size));obtain⟨A,m,c,hnvs,hm⟩:=hnv4.size_;obtain⟨A2,m2,c2,hdvs,hm2⟩:=hdv.size_;have Hnv:=hid hnv4;have Hdv:=hid hdv;clear hnv hdv hnv4;subst hnvs hdvs;have hb5:Below w4.heap.size w4 (w4.alloc (.cells #[.bool true,.slice A m c,.slice A2 m2 c2] 122)):=(Below.refl _ _).alloc (Nat.le_refl _) _;have hO5:=ja.make w4 122 [.bool true,.slice A m c,.slice A2 m2 c2];have HO6:=hid (hO4.alloc (.cells #[.bool true,.slice A m c,.slice A2 m2 c2] 122));have hfa:=hid (jl.of_pow (qP hn.1) hDa (by omega));have hfb:=hid (jl.of_pow (qP hd.1) hDb (by omega))
 go_wp2_with fail
 refine(zW _ _ (jf a) (jf b) _ (Hnv.out.below hb5) (Hdv.out.below hb5) hfa.out hfb.out).mono ?_;rintro e w5 ⟨gv,rfl,hgv,hB5⟩
 go_wp2_with fail
 refine(kU _ _ _ hgv).mono ?_;rintro e w6 ⟨rfl,rfl⟩;rw[hg]
 have hs5:w4.heap.size<w5.heap.size:=by have:=hB5.size;simp at this;omega
 have hO7:=HO6.out.below hB5 (by have:=hO4.lt;simp;omega);have hO8:=hO5.below hB5 (by simp);obtain⟨c0,c1,c2',f0,f1,f2⟩:=hO7.three;obtain⟨d0,d1,d2,_,_,_⟩:=hO8.three;have hW5:=hW4.trans ((hb5.trans (hB5.mono hb5.size)).mono hW4.size)
 have hR0:Rt w5 (.agg #[.bool true,.slice A m c,.slice A2 m2 c2]) (j4 true (jf a) (jf b)):=
  Rt.mk_ (Xl hd hb0) (of_decide_eq_true hg) (fun _=>Xl hn hz) ((Hnv.out.below hb5).below hB5) ((Hdv.out.below hb5).below hB5)
 have HR:=hid (hR0.put3 (a':= .bool true) (b':= .slice A m c) (c':= .slice A2 m2 c2) hO7 (js _) (jq _ _ _) (jq _ _ _) (js _) (jq _ _ _));clear hR0
 go_wp2
 exact bodyPost_ret (v:= .tuple #[.agg #[.bool true,.slice A m c,.slice A2 m2 c2],.int .i64 0]) (by simp[results,Tryz.results102,go_sem,c0,c1,c2']) rfl ⟨_,rfl,HR.out,((hW5.setCell (by simp) _).setCell (by simp) _).setCell (by simp) _⟩
theorem Cr (l dg a b:List UInt8) (w:World) (h1:hasPrefix l [45]=false) (h2:trimPrefix l [45]=dg) (h3:cut dg [47]=(a,b,true)) (hdl:dg.length<4294967281) (hal:a.length<4294967281) (hbl:b.length<4294967281) (hG:jN w) (hDa:qt a.length) (hDb:qt b.length)
  (hn:jD a) (hd:jD b) (hb0:(b==[48])=false) (hb1:(b==[49])=false) (hlen:a.length≤600) (hlen2:b.length≤600) (hg:decide (Nat.gcd (jf a) (jf b)=1)=false):Calls Tryz.prog 102 #[.string ⟨l.toArray⟩] w (qa 1 w):=by
 go_enter Tryz.func102,Tryz.ntmps102
 go_wp2_with fail
 refine(kY l dg false _ h1 h2).mono ?_;rintro e w' ⟨rfl,rfl⟩
 go_wp2_with fail
 refine(kZ dg a b true _ h3 hdl (hG.below ((Below.refl _ _).alloc (Nat.le_refl _) _))).mono ?_;rintro e w' ⟨rfl,n,rfl⟩
 go_wp2_with fail
 refine(ky a _ hn hal).mono ?_;rintro e w1 ⟨rfl,hB1⟩
 have hO1:=(((ja.make w 122 [.bool false,.slice none 0 0,.slice none 0 0]).drewN n).below hB1 (by simp))
 have hW1:Below w.heap.size w w1:=(below_drewN ((Below.refl w.heap.size w).alloc (Nat.le_refl _) _) n).trans (hB1.mono (by simp))
 go_wp2_with fail
 refine(ky b _ hd hbl).mono ?_;rintro e w2 ⟨rfl,hB2⟩;replace hO1:=hO1.below hB2 (hO1.lt);replace hW1:=hW1.trans (hB2.mono hW1.size)
 go_wp2_with fail
 refine(ze a _ hn.1 (by omega) hDa).mono ?_;rintro e w3 ⟨nv,rfl,hnv,hB3⟩
 go_wp2_with fail
 refine(ze b _ hd.1 (by omega) hDb).mono ?_;rintro e w4 ⟨dv,rfl,hdv,hB4⟩;have hnv4:=hnv.below hB4;have hO4:=(hO1.below hB3 hO1.lt).below hB4 (Nat.lt_of_lt_of_le hO1.lt hB3.size);have hW4:=(hW1.trans (hB3.mono hW1.size)).trans (hB4.mono (Nat.le_trans hW1.size hB3.size));obtain⟨A,m,c,hnvs,hm⟩:=hnv4.size_;obtain⟨A2,m2,c2,hdvs,hm2⟩:=hdv.size_;have Hnv:=hid hnv4;have Hdv:=hid hdv;clear hnv hdv hnv4;subst hnvs hdvs;have hb5:Below w4.heap.size w4 (w4.alloc (.cells #[.bool false,.slice A m c,.slice A2 m2 c2] 122)):=(Below.refl _ _).alloc (Nat.le_refl _) _;have hO5:=ja.make w4 122 [.bool false,.slice A m c,.slice A2 m2 c2];have HO6:=hid (hO4.alloc (.cells #[.bool false,.slice A m c,.slice A2 m2 c2] 122));have hfa:=hid (jl.of_pow (qP hn.1) hDa (by omega));have hfb:=hid (jl.of_pow (qP hd.1) hDb (by omega))
 go_wp2_with fail
 refine(zW _ _ (jf a) (jf b) _ (Hnv.out.below hb5) (Hdv.out.below hb5) hfa.out hfb.out).mono ?_;rintro e w5 ⟨gv,rfl,hgv,hB5⟩
 go_wp2_with fail
 refine(kU _ _ _ hgv).mono ?_;rintro e w6 ⟨rfl,rfl⟩;rw[hg]
 have hs5:w4.heap.size<w5.heap.size:=by have:=hB5.size;simp at this;omega
 have hO7:=HO6.out.below hB5 (by have:=hO4.lt;simp;omega);obtain⟨c0,c1,c2',f0,f1,f2⟩:=hO7.three;have hW5:=hW4.trans ((hb5.trans (hB5.mono hb5.size)).mono hW4.size)
 go_wp2
 exact bodyPost_ret (v:= .tuple #[j6,.int .i64 1]) (by simp[results,Tryz.results102,go_sem,c0,c1,c2',j6]) rfl ⟨rfl,((hW5.setCell (by simp) _).setCell (by simp) _).setCell (by simp) _⟩
theorem Ch (l dg a b:List UInt8) (w:World) (h1:hasPrefix l [45]=false) (h2:trimPrefix l [45]=dg) (h3:cut dg [47]=(a,b,true)) (hdl:dg.length<4294967281) (hal:a.length<4294967281) (hbl:b.length<4294967281) (hG:jN w) (hDa:qt a.length) (hDb:qt b.length)
  (hn:jD a) (hd:jD b) (hb0:(b==[48])=false) (hb1:(b==[49])=false) (hlen:a.length≤600) (hlen2:b.length≤600) (hg:decide (Nat.gcd (jf a) (jf b)=1)=true):Calls Tryz.prog 102 #[.string ⟨l.toArray⟩] w (z7 (j4 false (jf a) (jf b)) w):=by
 go_enter Tryz.func102,Tryz.ntmps102
 go_wp2_with fail
 refine(kY l dg false _ h1 h2).mono ?_;rintro e w' ⟨rfl,rfl⟩
 go_wp2_with fail
 refine(kZ dg a b true _ h3 hdl (hG.below ((Below.refl _ _).alloc (Nat.le_refl _) _))).mono ?_;rintro e w' ⟨rfl,n,rfl⟩
 go_wp2_with fail
 refine(ky a _ hn hal).mono ?_;rintro e w1 ⟨rfl,hB1⟩
 have hO1:=(((ja.make w 122 [.bool false,.slice none 0 0,.slice none 0 0]).drewN n).below hB1 (by simp))
 have hW1:Below w.heap.size w w1:=(below_drewN ((Below.refl w.heap.size w).alloc (Nat.le_refl _) _) n).trans (hB1.mono (by simp))
 go_wp2_with fail
 refine(ky b _ hd hbl).mono ?_;rintro e w2 ⟨rfl,hB2⟩;replace hO1:=hO1.below hB2 (hO1.lt);replace hW1:=hW1.trans (hB2.mono hW1.size)
 go_wp2_with fail
 refine(ze a _ hn.1 (by omega) hDa).mono ?_;rintro e w3 ⟨nv,rfl,hnv,hB3⟩
 go_wp2_with fail
 refine(ze b _ hd.1 (by omega) hDb).mono ?_;rintro e w4 ⟨dv,rfl,hdv,hB4⟩;have hnv4:=hnv.below hB4;have hO4:=(hO1.below hB3 hO1.lt).below hB4 (Nat.lt_of_lt_of_le hO1.lt hB3.size);have hW4:=(hW1.trans (hB3.mono hW1.size)).trans (hB4.mono (Nat.le_trans hW1.size hB3.size));obtain⟨A,m,c,hnvs,hm⟩:=hnv4.size_;obtain⟨A2,m2,c2,hdvs,hm2⟩:=hdv.size_;have Hnv:=hid hnv4;have Hdv:=hid hdv;clear hnv hdv hnv4;subst hnvs hdvs;have hb5:Below w4.heap.size w4 (w4.alloc (.cells #[.bool false,.slice A m c,.slice A2 m2 c2] 122)):=(Below.refl _ _).alloc (Nat.le_refl _) _;have hO5:=ja.make w4 122 [.bool false,.slice A m c,.slice A2 m2 c2];have HO6:=hid (hO4.alloc (.cells #[.bool false,.slice A m c,.slice A2 m2 c2] 122));have hfa:=hid (jl.of_pow (qP hn.1) hDa (by omega));have hfb:=hid (jl.of_pow (qP hd.1) hDb (by omega))
 go_wp2_with fail
 refine(zW _ _ (jf a) (jf b) _ (Hnv.out.below hb5) (Hdv.out.below hb5) hfa.out hfb.out).mono ?_;rintro e w5 ⟨gv,rfl,hgv,hB5⟩
 go_wp2_with fail
 refine(kU _ _ _ hgv).mono ?_;rintro e w6 ⟨rfl,rfl⟩;rw[hg]
 have hs5:w4.heap.size<w5.heap.size:=by have:=hB5.size;simp at this;omega
 have hO7:=HO6.out.below hB5 (by have:=hO4.lt;simp;omega);have hO8:=hO5.below hB5 (by simp);obtain⟨c0,c1,c2',f0,f1,f2⟩:=hO7.three;obtain⟨d0,d1,d2,_,_,_⟩:=hO8.three;have hW5:=hW4.trans ((hb5.trans (hB5.mono hb5.size)).mono hW4.size)
 have hR0:Rt w5 (.agg #[.bool false,.slice A m c,.slice A2 m2 c2]) (j4 false (jf a) (jf b)):=
  Rt.mk_ (Xl hd hb0) (of_decide_eq_true hg) (fun h=>by cases h) ((Hnv.out.below hb5).below hB5) ((Hdv.out.below hb5).below hB5)
 have HR:=hid (hR0.put3 (a':= .bool false) (b':= .slice A m c) (c':= .slice A2 m2 c2) hO7 (js _) (jq _ _ _) (jq _ _ _) (js _) (jq _ _ _));clear hR0
 go_wp2
 exact bodyPost_ret (v:= .tuple #[.agg #[.bool false,.slice A m c,.slice A2 m2 c2],.int .i64 0]) (by simp[results,Tryz.results102,go_sem,c0,c1,c2']) rfl ⟨_,rfl,HR.out,((hW5.setCell (by simp) _).setCell (by simp) _).setCell (by simp) _⟩
theorem Tv (a b:Int) (hb:b≠0):((a:Rat)/(b:Rat)).num.natAbs≤a.natAbs∧((a:Rat)/(b:Rat)).den≤b.natAbs:=by
 have h:Rat.divInt a b=(a:Rat)/(b:Rat):=Rat.divInt_eq_div a b;obtain⟨m,hm,h1,h2⟩:=Rat.divInt_num_den hb (n':=((a:Rat)/(b:Rat)).num) (d':=((a:Rat)/(b:Rat)).den) (z':=((a:Rat)/(b:Rat)).den_nz) (c:=((a:Rat)/(b:Rat)).reduced) h
 have hm1:1≤m.natAbs:=by omega
 constructor
 ·have:a.natAbs=((a:Rat)/(b:Rat)).num.natAbs*m.natAbs:=by
   conv=>lhs;rw[h1]
   rw[Int.natAbs_mul]
  rw[this];exact Nat.le_mul_of_pos_right _ hm1
 ·have:b.natAbs=((a:Rat)/(b:Rat)).den*m.natAbs:=by
   conv=>lhs;rw[h2]
   rw[Int.natAbs_mul];rfl
  rw[this];exact Nat.le_mul_of_pos_right _ hm1
theorem Mt (q:Rat):∃s c,qS q = .returned (.tuple #[.string s,.int .i64 c]):=by
 unfold qS;split
 ·exact⟨_,_,rfl⟩
 ·exact⟨_,_,rfl⟩
def Wk (a b:Int) (w:World) (e:Ending) (w':World):Prop:=
 (if b=0 then e = .returned (.tuple #[.string ⟨#[]⟩,.int .i64 6]) else e=qS ((a:Rat)/(b:Rat)))∧Below w.heap.size w w'
theorem Eb (a b:Int) (w:World) (ha: -9223372036854775808≤a∧a≤9223372036854775807) (hb: -9223372036854775808≤b∧b≤9223372036854775807) (hG:jN w):
  Calls Tryz.prog 34 #[.int .i64 a,.int .i64 b] w (Wk a b w):=by
 by_cases h0:b=0
 ·subst h0
  go_enter Tryz.func34,Tryz.ntmps34
  go_wp2
  go_ret2;exact⟨by rw[if_pos rfl];rfl,Below.refl _ _⟩
 ·have hb0:(b==0)=false:=by simpa using h0
  have hq:(b:Rat)≠0:=by simpa using h0
  obtain⟨p1,p2⟩:=Tv a b h0;have f1:jl ((a:Rat)).num.natAbs:=jl.small (by show a.natAbs<WB;unfold WB;omega);have f2:jl ((a:Rat)).den:=jl.small (by show 1<WB;decide);have f3:jl ((b:Rat)).num.natAbs:=jl.small (by show b.natAbs<WB;unfold WB;omega);have f4:jl ((b:Rat)).den:=jl.small (by show 1<WB;decide);have f5:jl ((a:Rat)/(b:Rat)).num.natAbs:=jl.small (by unfold WB;omega);have f6:jl ((a:Rat)/(b:Rat)).den:=jl.small (by unfold WB;omega);have H0:=hid h0;clear h0 p1 p2;go_enter Tryz.func34,Tryz.ntmps34
  go_wp2_with fail
  refine(Ke a _ ha.1 ha.2).mono ?_;rintro e w1 ⟨v1,rfl,hv1,hB1⟩
  go_wp2_with fail
  refine(Ke b _ hb.1 hb.2).mono ?_;rintro e w2 ⟨v2,rfl,hv2,hB2⟩
  go_wp2_with fail
  refine(Wm v1 v2 _ _ _ (hv1.below hB2) hv2 hq f1 f2 f3 f4).mono ?_;rintro e w3 ⟨v3,rfl,hv3,hB3⟩
  go_wp2_with fail
  refine(XP v3 _ _ hv3 f5 f6 (((hG.below hB1).below hB2).below hB3)).mono ?_;rintro e w4 ⟨he,hB4⟩;have hBt:=hB1.trans ((hB2.trans ((hB3.trans (hB4.mono hB3.size)).mono hB2.size)).mono hB1.size)
  have Hif:Hid (∀e,e=qS ((a:Rat)/(b:Rat))→Wk a b w e w4):=fun e he=>⟨by rw[if_neg H0.out];exact he,hBt⟩
  obtain⟨s,c,hs⟩:=Mt ((a:Rat)/(b:Rat));rw[hs] at he Hif;subst he;clear hs
  go_wp2
  go_ret2;exact Hif.out _ rfl
theorem Fe (v:Value) (q:Rat) (w:World) (h:Rt w v q):Calls Tryz.prog 314 #[.agg #[],v] w fun e w'=>e = .returned (.bool (qM q==0))∧Below w.heap.size w w':=by
 obtain⟨sg0,hs0⟩:∃s,qM q=s:=⟨_,rfl⟩
 have SG:=hid (fun wx (h:Rt wx v q)=>hs0 ▸ GP v q wx h);have Hs:=hid hs0;clear hs0;have HH:=hid h;obtain⟨nv,dv,hv,-,-⟩:=h;generalize decide (q.num<0)=neg at *;have H1:=hid (HH.out.below (((Below.refl _ w).alloc (Nat.le_refl _) (.cells #[] 172))));have H2:=hid (H1.out.below (((Below.refl _ _).alloc (Nat.le_refl _) (.cells #[.bool neg,nv,dv] 122))));subst hv;go_enter Tryz.func314,Tryz.ntmps314
 go_wp2_with fail
 refine(SG.out _ H2.out).mono ?_;rintro e w2 ⟨rfl,hB2⟩;have hBt:=(((Below.refl _ w).alloc (Nat.le_refl _) (.cells #[] 172)).alloc (by simp) (.cells #[.bool neg,nv,dv] 122)).trans (hB2.mono (by simp;omega));clear hB2
 go_wp2
 go_ret;exact⟨by rw[Hs.out];rfl,hBt⟩
theorem Zx (n:Int) (w:World) (h1: -9223372036854775808≤n) (h2:n≤9223372036854775807):Calls Tryz.prog 316 #[.agg #[],.int .i64 n] w (qE (n:Rat) w):=by
 obtain⟨W0,hW0⟩:∃W0,W0=(w.alloc (.cells #[] 172)).alloc (.cells #[.bool false,.slice none 0 0,.slice none 0 0] 122):=⟨_,rfl⟩
 have hB0:Below w.heap.size w W0:=by rw[hW0];exact((Below.refl _ _).alloc (Nat.le_refl _) _).alloc (by simp) _
 have hR:ja W0 (w.heap.size+1) 122 [.bool false,.slice none 0 0,.slice none 0 0]:=by
  rw[hW0];have:=ja.make (w.alloc (.cells #[] 172)) 122 [.bool false,.slice none 0 0,.slice none 0 0];simp only[World.size_alloc] at this;exact this
 have RO:=hid (fun W=>Ke n W h1 h2);clear h1 h2;go_enter Tryz.func316,Tryz.ntmps316
 go_upto_region 1 with fail
 rw[←hW0];clear hW0
 go_wp2_with fail
 refine(RO.out _).mono ?_;rintro e w2 ⟨v,rfl,hv,hB2⟩;obtain⟨nv,dv,rfl,hn,hd⟩:=hv;have hR2:=hR.below hB2 hR.lt;have hBt:=hB0.trans (hB2.mono hB0.size);have Hn:=hid (hn.put3 (c':=dv) hR2 (js _) (jq _ _ _) (jq _ _ _) (js (decide ((n:Rat).num<0))) hn.noInt);have Hd:=hid (hd.put3 (c':=dv) hR2 (js _) (jq _ _ _) (jq _ _ _) (js (decide ((n:Rat).num<0))) hn.noInt);obtain⟨e0,e1,e2,k0,k1,k2⟩:=hR2.three;obtain⟨A1,k1',c1,rfl,_⟩:=hn.size_;obtain⟨A2,k2',c2,rfl,_⟩:=hd.size_;clear hn hd hR hR2 hB2
 have KR:∃ng,Hid (ng=decide ((n:Rat).num<0)):=⟨_,hid rfl⟩
 obtain⟨ng,hng⟩:=KR;rw[←hng.out] at Hn Hd;rw[←hng.out]
 go_wp2
 exact bodyPost_ret (v:= .agg #[.bool ng,.slice A1 k1' c1,.slice A2 k2' c2]) (by simp[results,Tryz.results316,go_sem,e0,e1,e2]) rfl ⟨_,rfl,⟨_,_,by rw[hng.out],Hn.out,Hd.out⟩,((hBt.setCell (by simp) _).setCell (by simp) _).setCell (by simp) _⟩
theorem GB (v u:Value) (p q:Rat) (w:World) (h:Rt w v p) (h':Rt w u q) (f1:jl p.num.natAbs) (f2:jl p.den) (f3:jl q.num.natAbs) (f4:jl q.den):
  Calls Tryz.prog 318 #[.agg #[],v,u] w (qE (p*q) w):=by
 have RO:=hid (fun W (h:Rt W v p) (h':Rt W u q)=>WU v u p q W h h' f1 f2 f3 f4);clear f1 f2 f3 f4;have HH:=hid h;have HH':=hid h';obtain⟨av,bv,hv,-,-⟩:=h;obtain⟨cv,dv,hu,-,-⟩:=h';generalize decide (p.num<0)=na at hv;generalize decide (q.num<0)=nb at hu
 obtain⟨W0,hW0⟩:∃W0,W0=(((w.alloc (.cells #[] 172)).alloc (.cells #[.bool na,av,bv] 122)).alloc (.cells #[.bool nb,cv,dv] 122)).alloc (.cells #[.bool false,.slice none 0 0,.slice none 0 0] 122):=⟨_,rfl⟩
 have hB0:Below w.heap.size w W0:=by rw[hW0];exact((((Below.refl _ _).alloc (Nat.le_refl _) _).alloc (by simp) _).alloc (by simp;omega) _).alloc (by simp;omega) _
 have hP:ja W0 (w.heap.size+1) 122 [.bool na,av,bv]:=by
  rw[hW0];have:=ja.make (w.alloc (.cells #[] 172)) 122 [.bool na,av,bv];simp only[World.size_alloc] at this;exact(this.alloc _).alloc _
 have hQ:ja W0 (w.heap.size+1+1) 122 [.bool nb,cv,dv]:=by
  rw[hW0];have:=ja.make ((w.alloc (.cells #[] 172)).alloc (.cells #[.bool na,av,bv] 122)) 122 [.bool nb,cv,dv];simp only[World.size_alloc] at this;exact this.alloc _
 have hR:ja W0 (w.heap.size+1+1+1) 122 [.bool false,.slice none 0 0,.slice none 0 0]:=by
  rw[hW0];have:=ja.make (((w.alloc (.cells #[] 172)).alloc (.cells #[.bool na,av,bv] 122)).alloc (.cells #[.bool nb,cv,dv] 122)) 122 [.bool false,.slice none 0 0,.slice none 0 0];simp only[World.size_alloc] at this;exact this
 have HR:=hid hR;obtain⟨c0,c1,c2,_,_,_⟩:=hP.three;obtain⟨d0,d1,d2,_,_,_⟩:=hQ.three;have RX:=hid (RO.out W0 (HH.out.below hB0) (HH'.out.below hB0));clear hP hQ hR RO HH HH';subst hv hu;go_enter Tryz.func318,Tryz.ntmps318
 go_upto_region 1 with fail
 rw[←hW0];clear hW0
 go_wp2_with fail
 refine RX.out.mono ?_;rintro e w2 ⟨v,rfl,hv,hB2⟩;clear c0 c1 c2 d0 d1 d2;obtain⟨nv,ev,rfl,hn,hd⟩:=hv;have hR2:=HR.out.below hB2 HR.out.lt;have hBt:=hB0.trans (hB2.mono hB0.size);have Hn:=hid (hn.put3 (c':=ev) hR2 (js _) (jq _ _ _) (jq _ _ _) (js (decide ((p*q).num<0))) hn.noInt);have Hd:=hid (hd.put3 (c':=ev) hR2 (js _) (jq _ _ _) (jq _ _ _) (js (decide ((p*q).num<0))) hn.noInt);obtain⟨e0,e1,e2,k0,k1,k2⟩:=hR2.three;obtain⟨A1,k1',c1,rfl,_⟩:=hn.size_;obtain⟨A2,k2',c2,rfl,_⟩:=hd.size_;clear hn hd hR2 hB2 RX HR
 have KR:∃ng,Hid (ng=decide ((p*q).num<0)):=⟨_,hid rfl⟩
 obtain⟨ng,hng⟩:=KR;rw[←hng.out] at Hn Hd;rw[←hng.out]
 go_wp2
 exact bodyPost_ret (v:= .agg #[.bool ng,.slice A1 k1' c1,.slice A2 k2' c2]) (by simp[results,Tryz.results318,go_sem,e0,e1,e2]) rfl ⟨_,rfl,⟨_,_,by rw[hng.out],Hn.out,Hd.out⟩,((hBt.setCell (by simp;omega) _).setCell (by simp;omega) _).setCell (by simp;omega) _⟩
theorem Ff (v u:Value) (p q:Rat) (w:World) (h:Rt w v p) (h':Rt w u q) (hq0:q≠0) (f1:jl p.num.natAbs) (f2:jl p.den) (f3:jl q.num.natAbs) (f4:jl q.den):
  Calls Tryz.prog 317 #[.agg #[],v,u] w (qE (p/q) w):=by
 have RO:=hid (fun W (h:Rt W v p) (h':Rt W u q)=>Wm v u p q W h h' hq0 f1 f2 f3 f4);clear f1 f2 f3 f4 hq0;have HH:=hid h;have HH':=hid h';obtain⟨av,bv,hv,-,-⟩:=h;obtain⟨cv,dv,hu,-,-⟩:=h';generalize decide (p.num<0)=na at hv;generalize decide (q.num<0)=nb at hu
 obtain⟨W0,hW0⟩:∃W0,W0=(((w.alloc (.cells #[] 172)).alloc (.cells #[.bool na,av,bv] 122)).alloc (.cells #[.bool nb,cv,dv] 122)).alloc (.cells #[.bool false,.slice none 0 0,.slice none 0 0] 122):=⟨_,rfl⟩
 have hB0:Below w.heap.size w W0:=by rw[hW0];exact((((Below.refl _ _).alloc (Nat.le_refl _) _).alloc (by simp) _).alloc (by simp;omega) _).alloc (by simp;omega) _
 have hP:ja W0 (w.heap.size+1) 122 [.bool na,av,bv]:=by
  rw[hW0];have:=ja.make (w.alloc (.cells #[] 172)) 122 [.bool na,av,bv];simp only[World.size_alloc] at this;exact(this.alloc _).alloc _
 have hQ:ja W0 (w.heap.size+1+1) 122 [.bool nb,cv,dv]:=by
  rw[hW0];have:=ja.make ((w.alloc (.cells #[] 172)).alloc (.cells #[.bool na,av,bv] 122)) 122 [.bool nb,cv,dv];simp only[World.size_alloc] at this;exact this.alloc _
 have hR:ja W0 (w.heap.size+1+1+1) 122 [.bool false,.slice none 0 0,.slice none 0 0]:=by
  rw[hW0];have:=ja.make (((w.alloc (.cells #[] 172)).alloc (.cells #[.bool na,av,bv] 122)).alloc (.cells #[.bool nb,cv,dv] 122)) 122 [.bool false,.slice none 0 0,.slice none 0 0];simp only[World.size_alloc] at this;exact this
 have HR:=hid hR;obtain⟨c0,c1,c2,_,_,_⟩:=hP.three;obtain⟨d0,d1,d2,_,_,_⟩:=hQ.three;have RX:=hid (RO.out W0 (HH.out.below hB0) (HH'.out.below hB0));clear hP hQ hR RO HH HH';subst hv hu;go_enter Tryz.func317,Tryz.ntmps317
 go_upto_region 1 with fail
 rw[←hW0];clear hW0
 go_wp2_with fail
 refine RX.out.mono ?_;rintro e w2 ⟨v,rfl,hv,hB2⟩;clear c0 c1 c2 d0 d1 d2;obtain⟨nv,ev,rfl,hn,hd⟩:=hv;have hR2:=HR.out.below hB2 HR.out.lt;have hBt:=hB0.trans (hB2.mono hB0.size);have Hn:=hid (hn.put3 (c':=ev) hR2 (js _) (jq _ _ _) (jq _ _ _) (js (decide ((p/q).num<0))) hn.noInt);have Hd:=hid (hd.put3 (c':=ev) hR2 (js _) (jq _ _ _) (jq _ _ _) (js (decide ((p/q).num<0))) hn.noInt);obtain⟨e0,e1,e2,k0,k1,k2⟩:=hR2.three;obtain⟨A1,k1',c1,rfl,_⟩:=hn.size_;obtain⟨A2,k2',c2,rfl,_⟩:=hd.size_;clear hn hd hR2 hB2 RX HR
 have KR:∃ng,Hid (ng=decide ((p/q).num<0)):=⟨_,hid rfl⟩
 obtain⟨ng,hng⟩:=KR;rw[←hng.out] at Hn Hd;rw[←hng.out]
 go_wp2
 exact bodyPost_ret (v:= .agg #[.bool ng,.slice A1 k1' c1,.slice A2 k2' c2]) (by simp[results,Tryz.results317,go_sem,e0,e1,e2]) rfl ⟨_,rfl,⟨_,_,by rw[hng.out],Hn.out,Hd.out⟩,((hBt.setCell (by simp;omega) _).setCell (by simp;omega) _).setCell (by simp;omega) _⟩
