/- Contract: the product of two rational numbers. -/
import Derived.Test.YtneafcdfnhnpnaaGreatDoorZK04
import Derived.Deep.RegionHeld3
set_option maxRecDepth 100000
set_option maxHeartbeats 4000000
namespace Go.Proofs.YtneafcdfnhnpnaaGreatDoor
open Go.RowKit Go.Lib
theorem YU {W0 x x':World} {p q:Nat} {a1 a2 b1 b2:Value} (hb:Below x.heap.size x x') (hp:p<W0.heap.size) (hq:q<W0.heap.size)
  (h1:x.cell? ⟨p,1,none⟩=some a1) (h2:x.cell? ⟨p,2,none⟩=some a2) (h3:x.cell? ⟨q,1,none⟩=some b1) (h4:x.cell? ⟨q,2,none⟩=some b2) (h5:Below W0.heap.size W0 x):
  x'.cell? ⟨p,1,none⟩=some a1∧x'.cell? ⟨p,2,none⟩=some a2∧x'.cell? ⟨q,1,none⟩=some b1∧x'.cell? ⟨q,2,none⟩=some b2∧Below W0.heap.size W0 x':=by
 have hs:=h5.size;exact⟨(hb.cell (p:=⟨p,1,none⟩) (Nat.lt_of_lt_of_le hp hs)).trans h1,(hb.cell (p:=⟨p,2,none⟩) (Nat.lt_of_lt_of_le hp hs)).trans h2,(hb.cell (p:=⟨q,1,none⟩) (Nat.lt_of_lt_of_le hq hs)).trans h3,(hb.cell (p:=⟨q,2,none⟩) (Nat.lt_of_lt_of_le hq hs)).trans h4,h5.trans (hb.mono hs)⟩
def qC (q:Rat) (w:World) (e:Ending) (w':World):Prop:=∃v,e = .returned v∧Rt w' v q∧Below w.heap.size w w'
theorem za (neg:Bool) (n d:Nat):jV neg n d=mkRat (sg neg n) d:=by unfold jV;exact NQ neg n d
theorem Nt.pos_len {w:World} {v:Value} {x:Nat} (h:Nt w v x) (h0:x≠0):∃A k c,v = .slice A k c∧0<k∧k≤140737488355328:=by
 obtain⟨ws,A,c,rfl,g1,g2,g3,hc1,hc2,hs⟩:=h.open_;refine⟨A,ws.length,c,rfl,?_,by omega⟩;rcases Nat.eq_zero_or_pos ws.length with hl | hl
 ·exfalso;apply h0;rw[←g1,List.length_eq_zero_iff.1 hl];rfl
 ·exact hl
theorem WO (na nb:Bool) (nv dv mv ev:Value) (n d m e:Nat) (w:World) (h1:Nt w nv n) (h2:Nt w dv d) (h3:Nt w mv m) (h4:Nt w ev e) (hd:d≠0) (he:e≠0)
  (f1:jl n) (f2:jl d) (f3:jl m) (f4:jl e)
  (c1:Nat.gcd n d=1) (c2:Nat.gcd m e=1):
  Calls Tryz.prog 110 #[.agg #[.bool na,nv,dv],.agg #[.bool nb,mv,ev]] w (qC (jV na n d*jV nb m e) w):=by
 have Hm:=hid (NV na nb n d m e hd he);have Hl:=hid (NW n d m e hd he c1 c2);clear c1 c2;have hD1:0<d/Nat.gcd m d:=Nat.div_pos (Nat.gcd_le_right m (by omega)) (Nat.gcd_pos_of_pos_right _ (by omega));have hE1:0<e/Nat.gcd n e:=Nat.div_pos (Nat.gcd_le_right n (by omega)) (Nat.gcd_pos_of_pos_right _ (by omega))
 obtain⟨W0,hW0⟩:∃W0,W0=((w.alloc (.cells #[.bool na,nv,dv] 122)).alloc (.cells #[.bool nb,mv,ev] 122)).alloc (.cells #[.bool false,.slice none 0 0,.slice none 0 0] 122):=⟨_,rfl⟩
 have hB0:Below w.heap.size w W0:=by rw[hW0];exact(((Below.refl _ _).alloc (Nat.le_refl _) _).alloc (by simp) _).alloc (by simp;omega) _
 have hs0:W0.heap.size=w.heap.size+3:=by rw[hW0];simp
 have hP:ja W0 w.heap.size 122 [.bool na,nv,dv]:=by rw[hW0];exact((ja.make w _ [.bool na,nv,dv]).alloc _).alloc _
 have hQ:ja W0 (w.heap.size+1) 122 [.bool nb,mv,ev]:=by
  rw[hW0];have:=ja.make (w.alloc (.cells #[.bool na,nv,dv] 122)) 122 [.bool nb,mv,ev];simp only[World.size_alloc] at this;exact this.alloc _
 have hR:ja W0 (w.heap.size+1+1) 122 [.bool false,.slice none 0 0,.slice none 0 0]:=by
  rw[hW0];have:=ja.make ((w.alloc (.cells #[.bool na,nv,dv] 122)).alloc (.cells #[.bool nb,mv,ev] 122)) 122 [.bool false,.slice none 0 0,.slice none 0 0];simp only[World.size_alloc] at this;exact this
 have N1:=h1.below hB0;have N2:=h2.below hB0;have N3:=h3.below hB0;have N4:=h4.below hB0
 have S0:W0.drew.cell? ⟨w.heap.size,1,none⟩=some nv∧W0.drew.cell? ⟨w.heap.size,2,none⟩=some dv∧W0.drew.cell? ⟨w.heap.size+1,1,none⟩=some mv∧W0.drew.cell? ⟨w.heap.size+1,2,none⟩=some ev∧Below W0.heap.size W0 W0.drew:=
  ⟨hP.cell 1,hP.cell 2,hQ.cell 1,hQ.cell 2,(Below.refl _ _).drew⟩
 have hp:w.heap.size<W0.heap.size:=by omega
 have hq:w.heap.size+1<W0.heap.size:=by omega
 have HS0:=hid hs0;clear hs0 h1 h2 h3 h4;go_enter Tryz.func110,Tryz.ntmps110
 go_upto_region 1 with fail
 rw[←hW0];clear hW0
 go_region_held3 (fun w'=>w'.cell? ⟨w.heap.size,1,none⟩=some nv∧w'.cell? ⟨w.heap.size,2,none⟩=some dv∧w'.cell? ⟨w.heap.size+1,1,none⟩=some mv∧w'.cell? ⟨w.heap.size+1,2,none⟩=some ev∧Below W0.heap.size W0 w')
  (first | exact S0 | exact YU (by assumption) hp hq (by assumption) (by assumption) (by assumption) (by assumption) (by assumption))
  (first
   | (go_at_call_of 172 nv;go_split_ands;refine(zZ nv ev n e _ (N1.below (by assumption)) (N4.below (by assumption)) f1 f4).mono ?_;rintro e w1 ⟨l,rfl,hl1,hB1⟩)
   | (go_at_call_of 172 mv;go_split_ands;refine(zZ mv dv m d _ (N3.below (by assumption)) (N2.below (by assumption)) f3 f2).mono ?_;rintro e w2 ⟨r,rfl,hr,hB2⟩))
 have hl:=hl1.below hB2
 have hS2:w2.cell? ⟨w.heap.size,1,none⟩=some nv∧w2.cell? ⟨w.heap.size,2,none⟩=some dv∧w2.cell? ⟨w.heap.size+1,1,none⟩=some mv∧w2.cell? ⟨w.heap.size+1,2,none⟩=some ev∧Below W0.heap.size W0 w2:=by assumption
 clear hl1 hB1 hB2;have M1:=N1.below hS2.2.2.2.2;have M2:=N2.below hS2.2.2.2.2;have M3:=N3.below hS2.2.2.2.2;have M4:=N4.below hS2.2.2.2.2;have HS2:=hid hS2;clear hS2;generalize hg1:Nat.gcd n e=g1 at *;generalize hg2:Nat.gcd m d=g2 at *
 have hg1p:0<g1:=by rw[←hg1];exact Nat.gcd_pos_of_pos_right _ (by omega)
 have hg2p:0<g2:=by rw[←hg2];exact Nat.gcd_pos_of_pos_right _ (by omega)
 have q1:jl (n/g1):=f1.le (Nat.div_le_self _ _);have q2:jl (m/g2):=f3.le (Nat.div_le_self _ _);have q3:jl (d/g2):=f2.le (Nat.div_le_self _ _);have q4:jl (e/g1):=f4.le (Nat.div_le_self _ _);clear hg1 hg2
 go_wp2
 go_region_held3 (fun w'=>w'.cell? ⟨w.heap.size,1,none⟩=some nv∧w'.cell? ⟨w.heap.size,2,none⟩=some dv∧w'.cell? ⟨w.heap.size+1,1,none⟩=some mv∧w'.cell? ⟨w.heap.size+1,2,none⟩=some ev∧Below w2.heap.size w2 w')
  (first | exact⟨HS2.out.1,HS2.out.2.1,HS2.out.2.2.1,HS2.out.2.2.2.1,(Below.refl _ _).drew⟩ | exact YU (by assumption) (Nat.lt_of_lt_of_le hp HS2.out.2.2.2.2.size) (Nat.lt_of_lt_of_le hq HS2.out.2.2.2.2.size) (by assumption) (by assumption) (by assumption) (by assumption) (by assumption))
  (first
   | (go_at_call_of 176 nv;go_split_ands;refine(zX nv l n g1 _ (M1.below (by assumption)) (hl.below (by assumption)) hg1p f1).mono ?_;rintro e w3 ⟨x1,rfl,hx1,hB3⟩)
   | (go_at_call_of 176 mv;go_split_ands;refine(zX mv r m g2 _ (M3.below (by assumption)) (hr.below (by assumption)) hg2p f3).mono ?_;rintro e w4 ⟨x2,rfl,hx2,hB4⟩)
   | (go_at_call 178;go_split_ands;refine(Qp _ _ (n/g1) (m/g2) _ (hx1.below (by assumption)) hx2 q1 q2).mono ?_;rintro e w5 ⟨num,rfl,hnum,hB5⟩))
 have hS5:w5.cell? ⟨w.heap.size,1,none⟩=some nv∧w5.cell? ⟨w.heap.size,2,none⟩=some dv∧w5.cell? ⟨w.heap.size+1,1,none⟩=some mv∧w5.cell? ⟨w.heap.size+1,2,none⟩=some ev∧Below w2.heap.size w2 w5:=by assumption
 have L2:=Nat.lt_of_lt_of_le hp HS2.out.2.2.2.2.size;have L3:=Nat.lt_of_lt_of_le hq HS2.out.2.2.2.2.size;have L5:=Nat.lt_of_lt_of_le L2 hS5.2.2.2.2.size;have L6:=Nat.lt_of_lt_of_le L3 hS5.2.2.2.2.size;have P2:=M2.below hS5.2.2.2.2;have P4:=M4.below hS5.2.2.2.2;have hl5:=hl.below hS5.2.2.2.2;have hr5:=hr.below hS5.2.2.2.2;have hW5:=HS2.out.2.2.2.2.trans (hS5.2.2.2.2.mono HS2.out.2.2.2.2.size);have HS5:=hid hS5;clear hS5 M1 M2 M3 M4 hx1 hx2 hl hr
 go_wp2
 go_region_held3 (fun w'=>w'.cell? ⟨w.heap.size,1,none⟩=some nv∧w'.cell? ⟨w.heap.size,2,none⟩=some dv∧w'.cell? ⟨w.heap.size+1,1,none⟩=some mv∧w'.cell? ⟨w.heap.size+1,2,none⟩=some ev∧Below w5.heap.size w5 w')
  (first | exact⟨HS5.out.1,HS5.out.2.1,HS5.out.2.2.1,HS5.out.2.2.2.1,(Below.refl _ _).drew⟩ | exact YU (by assumption) L5 L6 (by assumption) (by assumption) (by assumption) (by assumption) (by assumption))
  (first
   | (go_at_call_of 176 dv;go_split_ands;refine(zX dv r d g2 _ (P2.below (by assumption)) (hr5.below (by assumption)) hg2p f2).mono ?_;rintro e w6 ⟨x1,rfl,hx1,hB6⟩)
   | (go_at_call_of 176 ev;go_split_ands;refine(zX ev l e g1 _ (P4.below (by assumption)) (hl5.below (by assumption)) hg1p f4).mono ?_;rintro e w7 ⟨x2,rfl,hx2,hB7⟩)
   | (go_at_call 178;go_split_ands;refine(Qp _ _ (d/g2) (e/g1) _ (hx1.below (by assumption)) hx2 q3 q4).mono ?_;rintro e w8 ⟨den,rfl,hden,hB8⟩))
 have hS8:w8.cell? ⟨w.heap.size,1,none⟩=some nv∧w8.cell? ⟨w.heap.size,2,none⟩=some dv∧w8.cell? ⟨w.heap.size+1,1,none⟩=some mv∧w8.cell? ⟨w.heap.size+1,2,none⟩=some ev∧Below w5.heap.size w5 w8:=by assumption
 have hnum8:=hnum.below hS8.2.2.2.2;have hW8:=hW5.trans (hS8.2.2.2.2.mono hW5.size);have hP8:=hP.below hW8 hp;have hQ8:=hQ.below hW8 hq;have hR8:=hR.below hW8 (by have:=HS0.out;omega);clear hS8 hx1 hx2 hnum P2 P4 hl5 hr5;obtain⟨c0,c1,c2,_,_,_⟩:=hP8.three;obtain⟨d0,d1,d2,_,_,_⟩:=hQ8.three;obtain⟨e0,e1,e2,k0,k1,k2⟩:=hR8.three;have hWt:=hB0.trans (hW8.mono hB0.size);have hDp:d/g2*(e/g1)≠0:=Nat.mul_ne_zero (by omega) (by omega)
 have key:∀ng:Bool,ng=((na != nb)&&decide (0<n/g1*(m/g2)))→Hid (Rt (((w8.setCell ⟨w.heap.size+1+1,0,none⟩ (.bool ng)).setCell ⟨w.heap.size+1+1,1,none⟩ num).setCell ⟨w.heap.size+1+1,2,none⟩ den) (.agg #[.bool ng,num,den]) (jV na n d*jV nb m e)):=by
  intro ng hng;apply hid;rw[za,za,Hm.out,←hng,←za]
  refine Rt.mk_ hDp Hl.out ?_ (hnum8.put3 hR8 (js _) (jq _ _ _) (jq _ _ _) (js _) hnum8.noInt) (hden.put3 hR8 (js _) (jq _ _ _) (jq _ _ _) (js _) hnum8.noInt)
  intro h hz;rw[hng,hz] at h;simp at h
 have Key:=hid key;clear key;obtain⟨A2,k2',cc2,hdvs,_⟩:=hden.size_;by_cases hz:n/g1*(m/g2)=0
 ·have hdz:decide (0<n/g1*(m/g2))=false:=by simp[hz]
  obtain⟨A,cc,hnv⟩:=Nt.zero_len (hz ▸ hnum8);rw[hdz] at Key;clear hnum8 hden hz hdz;subst hnv hdvs;cases na <;> cases nb
  all_goals
   have KR:=Key.out false rfl
   go_wp2
   exact bodyPost_ret (v:= .agg #[.bool false,.slice A 0 cc,.slice A2 k2' cc2]) (by simp[results,Tryz.results110,go_sem,e0,e1,e2]) rfl ⟨_,rfl,KR.out,((hWt.setCell (by simp;omega) _).setCell (by simp;omega) _).setCell (by simp;omega) _⟩
 ·have hdz:decide (0<n/g1*(m/g2))=true:=by simp;omega
  obtain⟨A,kk,cc,hnv,hkk,hkm⟩:=hnum8.pos_len hz;rw[hdz] at Key;clear hnum8 hden hz hdz;subst hnv hdvs;cases na <;> cases nb
  ·have KR:=Key.out false rfl
   go_wp2
   exact bodyPost_ret (v:= .agg #[.bool false,.slice A kk cc,.slice A2 k2' cc2]) (by simp[results,Tryz.results110,go_sem,e0,e1,e2]) rfl ⟨_,rfl,KR.out,((hWt.setCell (by simp;omega) _).setCell (by simp;omega) _).setCell (by simp;omega) _⟩
  ·have KR:=Key.out true rfl
   go_wp2
   exact bodyPost_ret (v:= .agg #[.bool true,.slice A kk cc,.slice A2 k2' cc2]) (by simp[results,Tryz.results110,go_sem,e0,e1,e2]) rfl ⟨_,rfl,KR.out,((hWt.setCell (by simp;omega) _).setCell (by simp;omega) _).setCell (by simp;omega) _⟩
  ·have KR:=Key.out true rfl
   go_wp2
   exact bodyPost_ret (v:= .agg #[.bool true,.slice A kk cc,.slice A2 k2' cc2]) (by simp[results,Tryz.results110,go_sem,e0,e1,e2]) rfl ⟨_,rfl,KR.out,((hWt.setCell (by simp;omega) _).setCell (by simp;omega) _).setCell (by simp;omega) _⟩
  ·have KR:=Key.out false rfl
   go_wp2
   exact bodyPost_ret (v:= .agg #[.bool false,.slice A kk cc,.slice A2 k2' cc2]) (by simp[results,Tryz.results110,go_sem,e0,e1,e2]) rfl ⟨_,rfl,KR.out,((hWt.setCell (by simp;omega) _).setCell (by simp;omega) _).setCell (by simp;omega) _⟩
theorem WP (v u:Value) (p q:Rat) (w:World) (h:Rt w v p) (h':Rt w u q) (f1:jl p.num.natAbs) (f2:jl p.den) (f3:jl q.num.natAbs) (f4:jl q.den):
  Calls Tryz.prog 110 #[v,u] w (qC (p*q) w):=by
 obtain⟨na,nv,dv,n,d,rfl,h1,h2,hd,c1,_,hp,_,hn,hdd⟩:=h.open_;obtain⟨nb,mv,ev,m,e,rfl,h3,h4,he,c2,_,hq,_,hm,hee⟩:=h'.open_;rw[hp,hq];exact WO na nb nv dv mv ev n d m e w h1 h2 h3 h4 hd he (hn ▸ f1) (hdd ▸ f2) (hm ▸ f3) (hee ▸ f4) c1 c2
theorem N9 (neg:Bool) (n d:Nat): -jV neg n d=jV ((!neg)&&decide (0<n)) n d:=by
 rw[za,za,Rat.neg_mkRat]
 congr 1
 by_cases h:n=0
 ·subst h;cases neg <;> simp[sg]
 ·rw[decide_eq_true (Nat.pos_of_ne_zero h)];cases neg <;> simp[sg]
theorem Nf (neg:Bool) (n d:Nat):(jV neg n d)⁻¹=jV neg d n:=by
 rw[za,za,←Rat.divInt_ofNat,←Rat.divInt_ofNat,Rat.inv_divInt];cases neg
 ·rfl
 ·show Rat.divInt (d:Int) (-(n:Int))=Rat.divInt (-(d:Int)) n
  rw[Rat.divInt_neg']
theorem Rd (w:World) (a b c:Value):∃W0,W0=(w.alloc (.cells #[a,b,c] 122)).alloc (.cells #[.bool false,.slice none 0 0,.slice none 0 0] 122) ∧
  ja W0 w.heap.size 122 [a,b,c]∧ja W0 (w.heap.size+1) 122 [.bool false,.slice none 0 0,.slice none 0 0]∧Below w.heap.size w W0∧w.heap.size+1<W0.heap.size:=by
 refine⟨_,rfl,(ja.make w _ [a,b,c]).alloc _,?_,((Below.refl _ _).alloc (Nat.le_refl _) _).alloc (by simp) _,by simp⟩;have:=ja.make (w.alloc (.cells #[a,b,c] 122)) 122 [.bool false,.slice none 0 0,.slice none 0 0];simp only[World.size_alloc] at this;exact this
theorem Uy (w:World) (a b c a' b' c':Value):∃W0,W0=((w.alloc (.cells #[a,b,c] 122)).alloc (.cells #[a',b',c'] 122)).alloc (.cells #[.bool false,.slice none 0 0,.slice none 0 0] 122) ∧
  ja W0 w.heap.size 122 [a,b,c]∧ja W0 (w.heap.size+1) 122 [a',b',c']∧ja W0 (w.heap.size+1+1) 122 [.bool false,.slice none 0 0,.slice none 0 0]∧Below w.heap.size w W0∧w.heap.size+1+1<W0.heap.size:=by
 refine⟨_,rfl,((ja.make w _ [a,b,c]).alloc _).alloc _,?_,?_,(((Below.refl _ _).alloc (Nat.le_refl _) _).alloc (by simp) _).alloc (by simp;omega) _,by simp⟩
 ·have:=ja.make (w.alloc (.cells #[a,b,c] 122)) 122 [a',b',c']
  simp only[World.size_alloc] at this;exact this.alloc _
 ·have:=ja.make ((w.alloc (.cells #[a,b,c] 122)).alloc (.cells #[a',b',c'] 122)) 122 [.bool false,.slice none 0 0,.slice none 0 0]
  simp only[World.size_alloc] at this;exact this
theorem Da (v:Value) (q:Rat) (w:World) (h:Rt w v q):Calls Tryz.prog 179 #[v] w (qC (-q) w):=by
 obtain⟨neg,nv,dv,n,d,rfl,h1,h2,hd,hc,hnn,hq,z1,z2,z3⟩:=h.open_;clear z1 z2 z3;obtain⟨W0,hW0,hP,hR,hB0,hs0⟩:=Rd w (.bool neg) nv dv
 have key:∀ng:Bool,ng=((!neg)&&decide (0<n))→Hid (Rt (((W0.setCell ⟨w.heap.size+1,0,none⟩ (.bool ng)).setCell ⟨w.heap.size+1,1,none⟩ nv).setCell ⟨w.heap.size+1,2,none⟩ dv) (.agg #[.bool ng,nv,dv]) (-q)):=by
  intro ng hng;apply hid;rw[hq,N9,←hng]
  refine Rt.mk_ hd hc ?_ ((h1.below hB0).put3 hR (js _) (jq _ _ _) (jq _ _ _) (js _) h1.noInt) ((h2.below hB0).put3 hR (js _) (jq _ _ _) (jq _ _ _) (js _) h1.noInt)
  intro e hz;rw[hng,hz] at e;simp at e
 have Key:=hid key;obtain⟨A2,k2,c2,hdv,_⟩:=h2.size_;obtain⟨c0,c1,c2',_,_,_⟩:=hP.three;obtain⟨e0,e1,e2,k0,k1,k2'⟩:=hR.three;clear key hd hc hnn hq h hP hR;by_cases hz:n=0
 ·obtain⟨A,cc,hnv⟩:=Nt.zero_len (hz ▸ h1)
  rw[hz] at Key;clear h1 h2 hz;subst hnv hdv;have KR:=Key.out false (by cases neg <;> rfl);clear Key;cases neg
  all_goals
   go_enter Tryz.func179,Tryz.ntmps179
   go_upto_region 1 with fail
   rw[←hW0];clear hW0
   go_wp2
   exact bodyPost_ret (v:= .agg #[.bool false,.slice A 0 cc,.slice A2 k2 c2]) (by simp[results,Tryz.results179,go_sem,e0,e1,e2]) rfl ⟨_,rfl,KR.out,((hB0.setCell (by simp) _).setCell (by simp) _).setCell (by simp) _⟩
 ·obtain⟨A,kk,cc,hnv,hkk,hkm⟩:=h1.pos_len hz
  rw[decide_eq_true (Nat.pos_of_ne_zero hz)] at Key;clear h1 h2 hz;subst hnv hdv;cases neg
  ·have KR:=Key.out true rfl
   go_enter Tryz.func179,Tryz.ntmps179
   go_upto_region 1 with fail
   rw[←hW0];clear hW0
   go_wp2
   exact bodyPost_ret (v:= .agg #[.bool true,.slice A kk cc,.slice A2 k2 c2]) (by simp[results,Tryz.results179,go_sem,e0,e1,e2]) rfl ⟨_,rfl,KR.out,((hB0.setCell (by simp) _).setCell (by simp) _).setCell (by simp) _⟩
  ·have KR:=Key.out false rfl
   go_enter Tryz.func179,Tryz.ntmps179
   go_upto_region 1 with fail
   rw[←hW0];clear hW0
   go_wp2
   exact bodyPost_ret (v:= .agg #[.bool false,.slice A kk cc,.slice A2 k2 c2]) (by simp[results,Tryz.results179,go_sem,e0,e1,e2]) rfl ⟨_,rfl,KR.out,((hB0.setCell (by simp) _).setCell (by simp) _).setCell (by simp) _⟩
def j5 (q:Rat):Int:=if q.num=0 then 0 else if q.num<0 then -1 else 1
theorem Gw (v:Value) (q:Rat) (w:World) (h:Rt w v q):Calls Tryz.prog 114 #[v] w fun e w'=>e = .returned (.int .i64 (j5 q))∧Below w.heap.size w w':=by
 obtain⟨neg,nv,dv,n,d,rfl,h1,h2,z1,z2,z3,z4,hneg,hn,z5⟩:=h.open_;clear z1 z2 z3 z4 z5;by_cases hz:n=0
 ·obtain⟨A,cc,hnv⟩:=Nt.zero_len (hz ▸ h1)
  have hs:j5 q=0:=by unfold j5;rw[if_pos (by omega)]
  have Hs:=hid hs;clear h1 h2 hz h hneg hn hs;subst hnv;go_enter Tryz.func114,Tryz.ntmps114
  go_wp2
  go_ret;exact⟨by rw[Hs.out];rfl,(Below.refl _ _).alloc (Nat.le_refl _) _⟩
 ·obtain⟨A,kk,cc,hnv,hkk,hkm⟩:=h1.pos_len hz
  have hb:((kk:Int)==0)=false:=by simpa using (by omega:¬(kk:Int)=0)
  cases neg
  ·have hs:j5 q=1:=by
    have:=of_decide_eq_false hneg.symm;unfold j5;rw[if_neg (by omega),if_neg this]
   have Hs:=hid hs;clear h1 h2 hz h hneg hn hs;subst hnv;go_enter Tryz.func114,Tryz.ntmps114
   go_wp2
   go_ret;exact⟨by rw[Hs.out];rfl,(Below.refl _ _).alloc (Nat.le_refl _) _⟩
  ·have hs:j5 q = -1:=by
    have:=of_decide_eq_true hneg.symm;unfold j5;rw[if_neg (by omega),if_pos this]
   have Hs:=hid hs;clear h1 h2 hz h hneg hn hs;subst hnv;go_enter Tryz.func114,Tryz.ntmps114
   go_wp2
   go_ret;exact⟨by rw[Hs.out];rfl,(Below.refl _ _).alloc (Nat.le_refl _) _⟩
theorem Kj (n:Int) (w:World) (h1: -9223372036854775808≤n) (h2:n≤9223372036854775807):Calls Tryz.prog 125 #[.int .i64 n] w (qC (n:Rat) w):=by
 have hO:=ja.make w 122 [.bool false,.slice none 0 0,.slice none 0 0];have hB:Below w.heap.size w (w.alloc (.cells #[.bool false,.slice none 0 0,.slice none 0 0] 122)):=(Below.refl _ _).alloc (Nat.le_refl _) _
 obtain⟨W0,hW0⟩:∃W0,W0=w.alloc (.cells #[.bool false,.slice none 0 0,.slice none 0 0] 122):=⟨_,rfl⟩
 have hs:w.heap.size<W0.heap.size:=by rw[hW0];simp
 change ja (w.alloc (.cells #[.bool false,.slice none 0 0,.slice none 0 0] 122)) _ _ _ at hO;rw[←hW0] at hO hB
 have ha:n.natAbs<WB:=by unfold WB;omega
 have hq:(n:Rat)=jV (decide (n<0)) n.natAbs 1:=by
  rw[za];by_cases h:n<0
  ·rw[decide_eq_true h];show _=mkRat (-(n.natAbs:Int)) 1;rw[show -(n.natAbs:Int)=n from by omega];exact(Rat.mkRat_one n).symm
  ·rw[decide_eq_false h];show _=mkRat (n.natAbs:Int) 1;rw[show (n.natAbs:Int)=n from by omega];exact(Rat.mkRat_one n).symm
 have Hq:=hid hq;clear hq;go_enter Tryz.func125,Tryz.ntmps125
 go_upto_region 1 with fail
 rw[←hW0];clear hW0
 go_wp2_with (go_at_call 131;refine(VL _ _ h1 h2).mono ?_;rintro e w' ⟨rfl,rfl⟩)
 refine(Jy n.natAbs _ ha).mono ?_;rintro e w2 ⟨nv,rfl,hnv,hB2⟩;have hO2:=(hO.below hB2 hs).alloc (.cells #[.int .u64 1] 148);have hnv2:=hnv.below ((Below.refl _ w2).alloc (Nat.le_refl _) (.cells #[.int .u64 1] 148));have hone:=Nt.one w2 148;have hW2:=(hB.trans (hB2.mono hB.size)).alloc (Nat.le_trans hB.size hB2.size) (.cells #[.int .u64 1] 148)
 have hR:=Rt.mk_ (neg:=decide (n<0)) (by decide:(1:Nat)≠0) (Nat.gcd_one_right n.natAbs) (by intro h;have:=of_decide_eq_true h;omega)
  (hnv2.put3 (a':= .bool (decide (n<0))) (b':=nv) (c':= .slice (some ⟨w2.heap.size,0,none⟩) 1 1) hO2 (js _) (jq _ _ _) (jq _ _ _) (js _) hnv.noInt)
  (hone.put3 (a':= .bool (decide (n<0))) (b':=nv) (c':= .slice (some ⟨w2.heap.size,0,none⟩) 1 1) hO2 (js _) (jq _ _ _) (jq _ _ _) (js _) hnv.noInt)
 rw[←Hq.out] at hR;have HR:=hid hR;have HW:=hid hW2;obtain⟨A,kk,cc,hnvs,_⟩:=hnv.size_;obtain⟨e0,e1,e2,k0,k1,k2⟩:=hO2.three;clear hR hone hnv hnv2 hO2 hW2 h1 h2 ha;generalize decide (n<0)=ng at *;subst hnvs
 go_wp2
 exact bodyPost_ret (v:= .agg #[.bool ng,.slice A kk cc,.slice (some ⟨w2.heap.size,0,none⟩) 1 1]) (by simp[results,Tryz.results125,go_sem,e0,e1,e2]) rfl ⟨_,rfl,HR.out,((HW.out.setCell (by simp) _).setCell (by simp) _).setCell (by simp) _⟩
theorem Wk (v u:Value) (p q:Rat) (w:World) (h:Rt w v p) (h':Rt w u q) (hq0:q≠0) (f1:jl p.num.natAbs) (f2:jl p.den) (f3:jl q.num.natAbs) (f4:jl q.den):
  Calls Tryz.prog 112 #[v,u] w (qC (p/q) w):=by
 obtain⟨na,nv,dv,n,d,rfl,h1,h2,hd,hc1,hna,hp,z1,z2,z3⟩:=h.open_;obtain⟨nb,mv,ev,m,e,rfl,h3,h4,he,hc2,hnb,hq,y1,y2,y3⟩:=h'.open_
 have hm0:m≠0:=by
  intro hm;apply hq0;rw[hq,hm,za];cases nb <;> simp[sg]
 obtain⟨W0,hW0,hP,hQ,hR,hB0,hs0⟩:=Uy w (.bool na) nv dv (.bool nb) mv ev;have hcall:=WO na nb nv dv ev mv n d e m W0 (h1.below hB0) (h2.below hB0) (h4.below hB0) (h3.below hB0) hd hm0 (z2 ▸ f1) (z3 ▸ f2) (y3 ▸ f4) (y2 ▸ f3) hc1 (by rw[Nat.gcd_comm];exact hc2);rw[←hp,←Nf nb m e,←hq,←Rat.div_def] at hcall;have Hcall:=hid hcall;obtain⟨A,k1,c1,hnv,_⟩:=h1.size_;obtain⟨A2,k2,c2,hdv,_⟩:=h2.size_;obtain⟨A3,k3,c3,hmv,_⟩:=h3.size_;obtain⟨A4,k4,c4,hev,_⟩:=h4.size_;clear hcall z1 z2 z3 y1 y2 y3 hq hp hc1 hc2 hna hnb h h' h1 h2 h3 h4 f1 f2 f3 f4 hd he hm0 hq0;subst hnv hdv hmv hev;obtain⟨a0,a1,a2,_,_,_⟩:=hP.three;obtain⟨b0,b1,b2,_,_,_⟩:=hQ.three;go_enter Tryz.func112,Tryz.ntmps112
 go_upto_region 1 with fail
 rw[←hW0];clear hW0
 go_wp2_with fail
 refine Hcall.out.mono ?_;rintro e w1 ⟨v,rfl,hv,hB1⟩;obtain⟨nv1,dv1,hvs,g1,g2⟩:=hv;obtain⟨A5,k5,c5,hnv1,_⟩:=g1.size_;obtain⟨A6,k6,c6,hdv1,_⟩:=g2.size_;have hR1:=hR.below hB1 hs0
 have hv2:Rt w1 (.agg #[.bool (decide ((p/q).num<0)),nv1,dv1]) (p/q):=⟨nv1,dv1,rfl,g1,g2⟩
 have HV:=hid (hv2.put3 (a':= .bool (decide ((p/q).num<0))) (b':=nv1) (c':=dv1) hR1 (js _) (jq _ _ _) (jq _ _ _) (js _) g1.noInt);obtain⟨e0,e1,e2,k0,k1',k2'⟩:=hR1.three;have hWt:=hB0.trans (hB1.mono hB0.size);clear g1 g2 hR1 hv2 hP hQ hR;generalize decide ((p/q).num<0)=ng at *;subst hvs hnv1 hdv1
 go_wp2
 exact bodyPost_ret (v:= .agg #[.bool ng,.slice A5 k5 c5,.slice A6 k6 c6]) (by simp[results,Tryz.results112,go_sem,e0,e1,e2]) rfl ⟨_,rfl,HV.out,((hWt.setCell (by simp;omega) _).setCell (by simp;omega) _).setCell (by simp;omega) _⟩
theorem Nk {W0 x x':World} {p:Nat} {a1 a2:Value} (hb:Below x.heap.size x x') (hp:p<W0.heap.size)
  (h1:x.cell? ⟨p,1,none⟩=some a1) (h2:x.cell? ⟨p,2,none⟩=some a2) (h5:Below W0.heap.size W0 x):
  x'.cell? ⟨p,1,none⟩=some a1∧x'.cell? ⟨p,2,none⟩=some a2∧Below W0.heap.size W0 x':=by
 have hs:=h5.size;exact⟨(hb.cell (p:=⟨p,1,none⟩) (Nat.lt_of_lt_of_le hp hs)).trans h1,(hb.cell (p:=⟨p,2,none⟩) (Nat.lt_of_lt_of_le hp hs)).trans h2,h5.trans (hb.mono hs)⟩
def jg (q:Rat):List UInt8:=(if q.num<0 then [45] else [])++decDigits q.num.natAbs++(if q.den=1 then [] else 47::decDigits q.den)
def kQ (q:Rat):Prop:=600<nDigits q.num.natAbs∨600<nDigits q.den
instance (q:Rat):Decidable (kQ q):=by unfold kQ;infer_instance
def xL (q:Rat):Ending:=if kQ q then .returned (.tuple #[.string ⟨#[]⟩,.int .i64 4]) else .returned (.tuple #[.string ⟨(jg q).toArray⟩,.int .i64 0])
def FK (q:Rat) (w:World) (e:Ending) (w':World):Prop:=e=xL q∧Below w.heap.size w w'
theorem Qt {q:Rat} (h:kQ q):xL q = .returned (.tuple #[.string ⟨#[]⟩,.int .i64 4]):=by unfold xL;rw[if_pos h]
theorem zJ {q:Rat} (h:¬kQ q):xL q = .returned (.tuple #[.string ⟨(jg q).toArray⟩,.int .i64 0]):=by unfold xL;rw[if_neg h]
theorem Xz {a b:ByteArray} (h:a=b):Ending.returned (.tuple #[.string a,.int .i64 0]) = .returned (.tuple #[.string b,.int .i64 0]):=by rw[h]
theorem E8 {x k:Nat} (hk:38≤k) (h:WB^k≤x):600<nDigits x:=by
 rcases Nat.lt_or_ge 600 (nDigits x) with h6 | h6
 ·exact h6
 ·exfalso
  have e1:10^nDigits x≤10^(19*k):=Nat.pow_le_pow_right (by decide) (by omega);rw[Nat.pow_mul] at e1;have e2:(10^19)^k≤WB^k:=Nat.pow_le_pow_left (by decide) k;exact Nat.lt_irrefl _ (Nat.lt_of_lt_of_le (lt_pow_nDigits x) (Nat.le_trans e1 (Nat.le_trans e2 h)))
theorem VO {w:World} {v:Value} {x:Nat} (h:Nt w v x):∃A n c,v = .slice A n c∧n≤140737488355328∧(38<n→600<nDigits x)∧(nDigits x≤600→n≤38):=by
 obtain⟨ws,A,c,rfl,h1,h2,h3,hc1,hc2,hs⟩:=h.open_
 have key:38<ws.length→600<nDigits x:=by
  intro hl;have h4:=JN h3 (by intro e;subst e;simp at hl);rw[h1] at h4;exact E8 (by omega) h4
 exact⟨A,ws.length,c,rfl,by omega,key,fun h6=>by
  rcases Nat.lt_or_ge 38 ws.length with hl | hl
  ·have:=key hl;omega
  ·exact hl⟩
theorem XZ (v:Value) (q:Rat) (w:World) (h:Rt w v q) (f1:jl q.num.natAbs) (f2:jl q.den) (hG:jH w):Calls Tryz.prog 124 #[v] w (FK q w):=by
 obtain⟨neg,nv,dv,n,d,rfl,h1,h2,z1,z2,z3,z4,hneg,hn,hd⟩:=h.open_;clear z1 z2 z3 z4 h
 have hlong:kQ q↔(600<nDigits n∨600<nDigits d):=by unfold kQ;rw[hn,hd]
 have htxt:jg q=(if neg=true then [45] else [])++decDigits n++(if d=1 then [] else 47::decDigits d):=by
  unfold jg;rw[hn,hd,hneg];congr 2;by_cases h:q.num<0 <;> simp[h]
 rw[←hn] at f1;rw[←hd] at f2;have Hlong:=hid hlong;have Htxt:=hid htxt;clear hlong htxt hneg hn hd;obtain⟨A1,k1,c1,hnv,hk1,hw1,hm1⟩:=VO h1;obtain⟨A2,k2,c2,hdv,hk2,hw2,hm2⟩:=VO h2
 obtain⟨W0,hW0⟩:∃W0,W0=w.alloc (.cells #[.bool neg,nv,dv] 122):=⟨_,rfl⟩
 have hP:ja W0 w.heap.size 122 [.bool neg,nv,dv]:=by rw[hW0];exact ja.make w _ [.bool neg,nv,dv]
 have hB0:Below w.heap.size w W0:=by rw[hW0];exact(Below.refl _ _).alloc (Nat.le_refl _) _
 have hp:w.heap.size<W0.heap.size:=by rw[hW0];simp
 have N1:=h1.below hB0;have N2:=h2.below hB0;have hG0:=hid (hG.below hB0);clear h1 h2 hG;obtain⟨a0,a1,a2,_,_,_⟩:=hP.three;by_cases hb1:38<k1
 ·have hL:=hid (Hlong.out.2 (.inl (hw1 hb1)))
  clear hw1 hw2 hm1 hm2 N1 N2;subst hnv hdv;go_enter Tryz.func124,Tryz.ntmps124
  go_upto_region 1 with fail
  rw[←hW0];clear hW0
  go_wp2
  go_ret2;exact⟨by rw[Qt hL.out];rfl,hB0⟩
 ·by_cases hb2:38<k2
  ·have hL:=hid (Hlong.out.2 (.inr (hw2 hb2)))
   clear hw1 hw2 hm1 hm2 N1 N2;subst hnv hdv;go_enter Tryz.func124,Tryz.ntmps124
   go_upto_region 1 with fail
   rw[←hW0];clear hW0
   go_wp2
   go_ret2;exact⟨by rw[Qt hL.out];rfl,hB0⟩
  ·clear hw1 hw2 hm1 hm2
   have hd1:decide ((38:Int)<(k1:Int))=false:=decide_eq_false (by omega);have hd2:decide ((38:Int)<(k2:Int))=false:=decide_eq_false (by omega);subst hnv hdv;go_enter Tryz.func124,Tryz.ntmps124
   go_upto_region 1 with fail
   rw[←hW0];clear hW0
   go_wp2
   go_region_held3 (fun w'=>w'.cell? ⟨w.heap.size,1,none⟩=some (.slice A1 k1 c1)∧w'.cell? ⟨w.heap.size,2,none⟩=some (.slice A2 k2 c2)∧Below W0.heap.size W0 w')
    (first | exact⟨a1,a2,(Below.refl _ _).drew⟩ | exact Nk (by assumption) hp (by assumption) (by assumption) (by assumption))
    (first
     | (go_at_call_of 188 (Value.slice A1 k1 c1);go_split_ands;refine(GU (.slice A1 k1 c1) n _ (N1.below (by assumption)) f1 (hG0.out.below (by assumption))).mono ?_;rintro e w1 ⟨rfl,hB1⟩)
     | (go_at_call_of 188 (Value.slice A2 k2 c2);go_split_ands;refine(GU (.slice A2 k2 c2) d _ (N2.below (by assumption)) f2 (hG0.out.below (by assumption))).mono ?_;rintro e w2 ⟨rfl,hB2⟩))
   have hS:w2.cell? ⟨w.heap.size,1,none⟩=some (.slice A1 k1 c1)∧w2.cell? ⟨w.heap.size,2,none⟩=some (.slice A2 k2 c2)∧Below W0.heap.size W0 w2:=by assumption
   have l1:=decDigits_length n;have l2:=decDigits_length d;have hWt:=hB0.trans (hS.2.2.mono hB0.size);have a0':=(hS.2.2.cell (p:=⟨w.heap.size,0,none⟩) hp).trans a0;have a1':=hS.1;have a2':=hS.2.1;have M2:=N2.below hS.2.2;clear hS;by_cases hl1:600<nDigits n
   ·have hL:=hid (Hlong.out.2 (.inl hl1))
    clear M2
    go_wp2
    go_ret2;exact⟨by rw[Qt hL.out];rfl,hWt⟩
   ·by_cases hl2:600<nDigits d
    ·have hL:=hid (Hlong.out.2 (.inr hl2))
     clear M2
     go_wp2
     go_ret2;exact⟨by rw[Qt hL.out];rfl,hWt⟩
    ·have hL:=hid (fun h=>by rcases Hlong.out.1 h with h | h;exact hl1 h;exact hl2 h:¬kQ q)
     by_cases hone:d=1
     ·have hd1':=decide_eq_true hone
      have Hd1:=hid hd1';cases neg
      ·have Ht:=hid (show jg q=decDigits n from by rw[Htxt.out,hone];simp)
       clear hone hd1'
       go_wp2_with fail
       refine(kS _ d _ M2).mono ?_;rintro e w3 ⟨rfl,rfl⟩;rw[Hd1.out]
       go_wp2
       go_ret2;refine⟨?_,hWt⟩;rw[zJ hL.out];exact Xz (by rw[Ht.out])
      ·have Ht:=hid (show jg q=[45]++decDigits n from by rw[Htxt.out,hone];simp)
       clear hone hd1'
       go_wp2_with fail
       refine(kS _ d _ M2).mono ?_;rintro e w3 ⟨rfl,rfl⟩;rw[Hd1.out]
       go_wp2
       go_ret2;refine⟨?_,hWt⟩;rw[zJ hL.out];exact Xz (by rw[Ht.out,←ByteArray.mk_append_mk])
     ·have hd1':=decide_eq_false hone
      have Hd1:=hid hd1';cases neg
      ·have Ht:=hid (show jg q=decDigits n++([47]++decDigits d) from by rw[Htxt.out,if_neg hone];simp)
       clear hone hd1'
       go_wp2_with fail
       refine(kS _ d _ M2).mono ?_;rintro e w3 ⟨rfl,rfl⟩;rw[Hd1.out]
       go_wp2
       go_ret2;refine⟨?_,hWt⟩;rw[zJ hL.out];exact Xz (by rw[Ht.out,←ByteArray.mk_append_mk,←ByteArray.mk_append_mk])
      ·have Ht:=hid (show jg q=[45]++decDigits n++([47]++decDigits d) from by rw[Htxt.out,if_neg hone];simp)
       clear hone hd1'
       go_wp2_with fail
       refine(kS _ d _ M2).mono ?_;rintro e w3 ⟨rfl,rfl⟩;rw[Hd1.out]
       go_wp2
       go_ret2;refine⟨?_,hWt⟩;rw[zJ hL.out];exact Xz (by rw[Ht.out,←ByteArray.mk_append_mk,←ByteArray.mk_append_mk,←ByteArray.mk_append_mk])
def jk (l:List UInt8):Nat:=l.findIdx (· ==47)
theorem Kr (l:List UInt8):jk l≤l.length:=List.findIdx_le_length
theorem CJ {l:List UInt8} {k:Nat} {c:UInt8} (hc:l[k]? =some c) (h:c=47) (hk:k≤jk l):jk l=k:=by
 obtain⟨hl,hg⟩:=List.getElem?_eq_some_iff.1 hc;rcases Nat.lt_or_ge k (jk l) with h1 | h1
 ·have:=List.not_of_lt_findIdx h1
  rw[hg,h] at this;simp at this
 ·omega
theorem CQ {l:List UInt8} {k:Nat} {c:UInt8} (hc:l[k]? =some c) (h:c≠47) (hk:k≤jk l):k+1≤jk l:=by
 obtain⟨hl,hg⟩:=List.getElem?_eq_some_iff.1 hc;rcases Nat.lt_or_ge k (jk l) with h1 | h1
 ·exact h1
 ·have h2:jk l=k:=by omega
  have h3:jk l<l.length:=by omega
  have:=List.findIdx_getElem (p:=(· ==47)) (w:=h3)
  have e:l[List.findIdx (fun x=>x==47) l]'h3=l[k]:=by congr 1
  rw[e,hg] at this;exact absurd (by simpa using this) h
theorem Yk {c:UInt8} {n:Nat} (hn:n<256) (h:c≠UInt8.ofNat n):((c.toNat:Int)==(n:Int))=false:=by
 have:c.toNat≠n:=fun e=>h (by apply UInt8.toNat_inj.1;rw[e,UInt8.toNat_ofNat'];exact(Nat.mod_eq_of_lt hn).symm)
 simpa using (by omega:¬(c.toNat:Int)=n)
theorem UB {c:UInt8} {n:Nat} (hn:n<256) (h:c=UInt8.ofNat n):((c.toNat:Int)==(n:Int))=true:=by
 subst h;rw[UInt8.toNat_ofNat',Nat.mod_eq_of_lt hn];simp
def xC (n:Nat) (w:World) (e:Ending) (w':World):Prop:=e = .returned (.int .i64 (n:Int))∧w=w'
def x8 (b:Bool) (w:World) (e:Ending) (w':World):Prop:=e = .returned (.bool b)∧w=w'
theorem zi (s:ByteArray) (w:World) (hs:s.size≤4611686018427387904):
  Calls Tryz.prog 103 #[.string s] w (xC (jk s.data.toList) w):=by
 go_enter Tryz.func103,Tryz.ntmps103
 go_wp2
 go_loopg [3,4,10,11,12] s.size (fun g i _ _ _ _ wr=>∃pos:Nat,i = .int .i64 pos∧pos+g=s.size∧Hid (pos≤jk s.data.toList)∧wr=w)
 case atStart=>exact⟨0,rfl,by omega,hid (Nat.zero_le _),rfl⟩
 case round=>
  obtain⟨pos,rfl,hp,hd,rfl⟩:=hrel
  cases gk with
  | zero=>
   have hb:¬((pos:Int)<(s.size:Int)):=by omega
   have HE:Hid (jk s.data.toList=s.size):=hid (by
    have h1:=Kr s.data.toList
    have h2:s.data.toList.length=s.size:=by simp
    have:=hd.out;omega)
   clear hd
   go_wp2
   go_ret;exact⟨by rw[HE.out];rfl,rfl⟩
  | succ gh=>
   have hlt:pos<s.size:=by omega
   have hge:=xm s pos hlt;by_cases hc:s[pos]=47
   ·have hb3:(((s[pos]).toNat:Int)==47)=true:=UB (n:=47) (by decide) hc
    have HE:=hid (CJ hge hc hd.out);clear hd hc hge
    go_wp2
    go_ret;exact⟨by rw[HE.out];rfl,rfl⟩
   ·have hb3:(((s[pos]).toNat:Int)==47)=false:=Yk (n:=47) (by decide) hc
    have HE:=hid (CQ hge hc hd.out);clear hd hc hge
    go_wp2
    go_roundg gh
    case rel=>exact⟨pos+1,by go_num,by omega,HE,rfl⟩
    case measure=>omega
def KI (l:List UInt8) (k:Nat):Prop:=jW (l.take k)
theorem KI.step {l:List UInt8} {k:Nat} {c:UInt8} (h:KI l k) (hc:l[k]? =some c) (hd:48≤c.toNat∧c.toNat≤57):KI l (k+1):=by
 intro x hx;rw[List.take_add_one,hc] at hx;rcases List.mem_append.1 hx with h1 | h1
 ·exact h x h1
 ·have:x=c:=by simpa using h1
  subst this;exact hd
theorem MB (s:ByteArray) (w:World) (hs:s.size≤4611686018427387904):
  Calls Tryz.prog 173 #[.string s] w (x8 (decide (jW s.data.toList)) w):=by
 go_enter Tryz.func173,Tryz.ntmps173
 go_wp2
 go_loopg [3] s.size (fun g i wr=>∃pos:Nat,i = .int .i64 pos∧pos+g=s.size∧Hid (KI s.data.toList pos)∧wr=w)
 case atStart=>exact⟨0,rfl,by omega,hid (fun c hc=>by simp at hc),rfl⟩
 case round=>
  obtain⟨pos,rfl,hp,hd,rfl⟩:=hrel
  cases gk with
  | zero=>
   have hb:¬((pos:Int)<(s.size:Int)):=by omega
   have HE:Hid (decide (jW s.data.toList)=true):=hid (by
    have h1:=hd.out;unfold KI at h1;rw[List.take_of_length_le (by simp;omega)] at h1
    exact decide_eq_true h1)
   clear hd
   go_wp2
   go_ret;exact⟨by rw[HE.out];rfl,rfl⟩
  | succ gh=>
   have hlt:pos<s.size:=by omega
   have hge:=xm s pos hlt;by_cases h1:48≤(s[pos]).toNat
   ·by_cases h2:(s[pos]).toNat≤57
    ·have hb1:decide (((s[pos]).toNat:Int)<48)=false:=by simp;omega
     have hb2:decide ((57:Int)<((s[pos]).toNat:Int))=false:=by simp;omega
     have HE:=hid (hd.out.step hge ⟨h1,h2⟩);clear hd h1 h2 hge
     go_wp2
     go_roundg gh
     case rel=>exact⟨pos+1,by go_num,by omega,HE,rfl⟩
     case measure=>omega
    ·have hb1:decide (((s[pos]).toNat:Int)<48)=false:=by simp;omega
     have hb2:decide ((57:Int)<((s[pos]).toNat:Int))=true:=by simp;omega
     have HE:Hid (decide (jW s.data.toList)=false):=hid (decide_eq_false fun h=>by have:=h _ (List.mem_of_getElem? hge);omega);clear hd h1 h2 hge
     go_wp2
     go_ret;exact⟨by rw[HE.out];rfl,rfl⟩
   ·have hb1:decide (((s[pos]).toNat:Int)<48)=true:=by simp;omega
    have HE:Hid (decide (jW s.data.toList)=false):=hid (decide_eq_false fun h=>by have:=h _ (List.mem_of_getElem? hge);omega);clear hd h1 hge
    go_wp2
    go_ret;exact⟨by rw[HE.out];rfl,rfl⟩
theorem E5 {s:ByteArray} (h:s.size=0):s.data.toList=[]:=List.length_eq_zero_iff.1 (by simpa using h)
theorem US (s:ByteArray) (w:World) (hs:s.size≤4611686018427387904):
  Calls Tryz.prog 104 #[.string s] w (x8 (decide (jD s.data.toList)) w):=by
 have DG:=hid (MB s w hs);by_cases h0:s.size=0
 ·have hb0:((s.size:Int)==0)=true:=by rw[h0];rfl
  have HE:Hid (decide (jD s.data.toList)=false):=hid (by rw[E5 h0];decide);clear h0;go_enter Tryz.func104,Tryz.ntmps104
  go_wp2
  go_ret;exact⟨by rw[HE.out];rfl,rfl⟩
 ·have hb0:((s.size:Int)==0)=false:=by simpa using h0
  have h00:0<s.size:=Nat.pos_of_ne_zero h0;have hge:=xm s 0 h00
  have hne:s.data.toList≠[]:=fun e=>by rw[e] at hge;simp at hge
  have hhd:s.data.toList.head? =some s[0]:=by rw[List.head?_eq_getElem?];exact hge
  have hll:s.data.toList.length=s.size:=by simp
  by_cases h1:1<s.size
  ·have h1':(1:Int)<(s.size:Int):=by omega
   by_cases hc:s[0]=48
   ·have hb3:(((s[0]).toNat:Int)==48)=true:=UB (n:=48) (by decide) hc
    have HE:Hid (decide (jD s.data.toList)=false):=hid (decide_eq_false (by
     rintro ⟨_,h | h⟩
     ·rw[h] at hll;simp at hll;omega
     ·exact h.2 (by rw[hhd,hc])))
    clear h0 h1 hge hne hhd hll hc DG;go_enter Tryz.func104,Tryz.ntmps104
    go_wp2
    go_ret;exact⟨by rw[HE.out];rfl,rfl⟩
   ·have hb3:(((s[0]).toNat:Int)==48)=false:=Yk (n:=48) (by decide) hc
    have HE:Hid (decide (jD s.data.toList)=decide (jW s.data.toList)):=hid (by
     congr 1
     apply propext
     exact⟨fun h=>h.1,fun h=>⟨h,.inr ⟨hne,by rw[hhd];intro e;exact hc (Option.some.inj e)⟩⟩⟩)
    clear h0 h1 hge hne hhd hll hc;go_enter Tryz.func104,Tryz.ntmps104
    go_wp2_with fail
    refine DG.out.mono ?_;rintro e w1 ⟨rfl,rfl⟩
    go_wp2
    go_ret;exact⟨by rw[HE.out];rfl,rfl⟩
  ·have h1':decide ((1:Int)<(s.size:Int))=false:=by simp;omega
   have HE:Hid (decide (jD s.data.toList)=decide (jW s.data.toList)):=hid (by
     congr 1
     apply propext;refine⟨fun h=>h.1,fun h=>⟨h,?_⟩⟩;by_cases hc:s[0]=48
     ·refine .inl ?_
      obtain⟨a,ha⟩:=List.length_eq_one_iff.1 (by omega:s.data.toList.length=1);rw[ha] at hhd ⊢;rw[show a=48 from by rw[←hc];exact Option.some.inj hhd]
     ·exact .inr ⟨hne,by rw[hhd];intro e;exact hc (Option.some.inj e)⟩)
   clear h0 h1 hge hne hhd hll;go_enter Tryz.func104,Tryz.ntmps104
   go_wp2_with fail
   refine DG.out.mono ?_;rintro e w1 ⟨rfl,rfl⟩
   go_wp2
   go_ret;exact⟨by rw[HE.out];rfl,rfl⟩
theorem Sj {l:List UInt8} {k:Nat} {c:UInt8} (hc:l[k]? =some c):jf (l.take (k+1))=10*jf (l.take k)+(c.toNat-48):=by
 rw[List.take_add_one,hc,Option.toList_some,Jr]
 have:jf [c]=c.toNat-48:=by rw[jf,zy,yY];omega
 rw[this];simp;omega
theorem Sk {l:List UInt8} (h:jW l) (k n:Nat) (hk:k≤n):jf (l.take k)<10^n:=by
 have:=qG (Jo h k);refine Nat.lt_of_lt_of_le this (Nat.pow_le_pow_right (by decide) ?_);rw[List.length_take];omega
theorem Qq (s:ByteArray) (w:World) (hs:s.size≤18) (hd:jW s.data.toList):
  Calls Tryz.prog 180 #[.string s] w (xC (jf s.data.toList) w):=by
 have HD:=hid hd;clear hd;go_enter Tryz.func180,Tryz.ntmps180
 go_wp2
 go_loopg [3,4] s.size (fun g n i wr=>∃(pos x:Nat),i = .int .i64 pos∧n = .int .i64 (x:Int)∧pos+g=s.size∧Hid (x=jf (s.data.toList.take pos))∧wr=w)
 case atStart=>exact⟨0,0,rfl,rfl,by omega,hid rfl,rfl⟩
 case round=>
  obtain⟨pos,x,rfl,rfl,hp,hd,rfl⟩:=hrel
  cases gk with
  | zero=>
   have hb:¬((pos:Int)<(s.size:Int)):=by omega
   have HE:Hid (jf s.data.toList=x):=hid (by
    have h1:=hd.out;rw[List.take_of_length_le (by simp;omega)] at h1
    exact h1.symm)
   clear hd
   go_wp2
   go_ret;exact⟨by rw[HE.out];rfl,rfl⟩
  | succ gh=>
   have hlt:pos<s.size:=by omega
   have hge:=xm s pos hlt
   have hx:x<100000000000000000:=by
    have:=Sk HD.out pos 17 (by omega);rw[←hd.out] at this;exact this
   have hcc:=HD.out _ (List.mem_of_getElem? hge);have HE:Hid (10*x+((s[pos]).toNat-48)=jf (s.data.toList.take (pos+1))):=hid (by rw[Sj hge,hd.out]);clear hd hge
   obtain⟨d,hdd⟩:∃d,(s[pos]).toNat=d+48:=⟨(s[pos]).toNat-48,by omega⟩
   have HE2:Hid (10*x+d=jf (s.data.toList.take (pos+1))):=hid (by rw[←HE.out,hdd];omega)
   have hd9:d≤9:=by omega
   clear HE hcc
   go_wp2
   go_roundg gh
   case rel=>exact⟨pos+1,10*x+d,by go_num,by go_num,by omega,HE2,rfl⟩
   case measure=>omega
end Go.Proofs.YtneafcdfnhnpnaaGreatDoor
namespace Go.Proofs.YtneafcdfnhnpnaaGreatDoor
open Go.RowKit
def EI (a n r x f g:Int):Prop:=0≤x∧x<r∧r≤n∧Int.gcd r x=Int.gcd a n∧n∣(f*a-r)∧n∣(g*a-x) ∧
 (∃F G:Nat,((f = -(F:Int)∧g=(G:Int))∨(f=(F:Int)∧g = -(G:Int)))∧(G:Int)*r+F*x=n)
theorem EI.start (a n:Int) (hn:1≤n):EI a n n (a%n) 0 1:=by
 refine⟨Int.emod_nonneg _ (by omega),Int.emod_lt_of_pos _ (by omega),by omega,?_,?_,?_,0,1,.inl ⟨by simp,by simp⟩,by simp⟩
 ·rw[Int.emod_def,Int.gcd_sub_mul_left_right,Int.gcd_comm]
 ·simp
 ·rw[Int.one_mul];exact Int.dvd_self_sub_emod
theorem EI.step {a n r x f g:Int} (h:EI a n r x f g) (hx:x≠0):EI a n x (r-r/x*x) g (f-r/x*g):=by
 obtain⟨h0,h1,h2,h3,h4,h5,F,G,hs,hn⟩:=h
 have hm:r-r/x*x=r%x:=by rw[Int.emod_def,Int.mul_comm]
 have hq:0≤r/x:=Int.ediv_nonneg (by omega) h0;obtain⟨q,hq'⟩:=Int.eq_ofNat_of_zero_le hq;rw[hm];refine⟨Int.emod_nonneg _ hx,Int.emod_lt_of_pos _ (by omega),by omega,?_,h5,?_,G,F+q*G,?_,?_⟩
 ·rw[←hm,Int.gcd_sub_mul_right_right,Int.gcd_comm,h3]
 ·rw[←hm]
  have e:(f-r/x*g)*a-(r-r/x*x)=(f*a-r)-r/x*(g*a-x):=by
   simp only[Int.sub_mul,Int.mul_sub,Int.mul_assoc];omega
  rw[e];exact Int.dvd_sub h4 (Int.dvd_mul_of_dvd_right h5)
 ·rw[hq']
  rcases hs with ⟨rfl,rfl⟩ | ⟨rfl,rfl⟩
  ·right;refine⟨rfl,?_⟩;simp only[Int.natCast_add,Int.natCast_mul];omega
  ·left;refine⟨rfl,?_⟩;simp only[Int.natCast_add,Int.natCast_mul,Int.mul_neg];omega
 ·rw[←hm,hq']
  simp only[Int.natCast_add,Int.natCast_mul,Int.add_mul,Int.mul_sub];rw[←hn,Int.mul_assoc,Int.mul_left_comm (G:Int) q x];omega
theorem EI.bounds {a n r x f g:Int} (h:EI a n r x f g) (hx:x≠0):0≤r/x∧0≤r/x*x∧r/x*x≤n ∧ -n≤r/x*g∧r/x*g≤n ∧ -n≤f∧f≤n ∧ -n≤g∧g≤n:=by
 obtain⟨h0,h1,h2,h3,h4,h5,F,G,hs,hn⟩:=h;have hq:0≤r/x:=Int.ediv_nonneg (by omega) h0;have hqx:r/x*x≤r:=Int.ediv_mul_le r hx
 have hqr:r/x≤r:=by
  have:=Int.ediv_le_self (b:=x) (show (0:Int)≤r by omega);omega
 have hG:(G:Int)*(r/x)≤G*r:=Int.mul_le_mul_of_nonneg_left hqr (by omega);have hF0:(0:Int)≤F*x:=Int.mul_nonneg (by omega) h0;have hG0:(0:Int)≤G*(r/x):=Int.mul_nonneg (by omega) hq
 have hF1:(F:Int)≤F*x:=by have:=Int.mul_le_mul_of_nonneg_left (show (1:Int)≤x by omega) (show (0:Int)≤F by omega);omega
 have hG1:(G:Int)≤G*r:=by have:=Int.mul_le_mul_of_nonneg_left (show (1:Int)≤r by omega) (show (0:Int)≤G by omega);omega
 have hGr:(0:Int)≤G*r:=by omega
 rcases hs with ⟨rfl,rfl⟩ | ⟨rfl,rfl⟩
 ·rw[Int.mul_comm (r/x) (G:Int)]
  refine⟨hq,Int.mul_nonneg hq h0,?_,?_,?_,?_,?_,?_,?_⟩ <;> omega
 ·rw[Int.mul_neg,Int.mul_comm (r/x) (G:Int)]
  refine⟨hq,Int.mul_nonneg hq h0,?_,?_,?_,?_,?_,?_,?_⟩ <;> omega
theorem EI.last {a n r f g:Int} (h:EI a n r 0 f g):r=Int.gcd a n∧n∣(f*a-Int.gcd a n):=by
 obtain⟨h0,h1,h2,h3,h4,h5,h6⟩:=h
 have:r=Int.gcd a n:=by rw[←h3,Int.gcd_zero_right];omega
 rw[←this];exact⟨rfl,h4⟩
theorem NU {a n f:Int} (h:n∣(f*a-(1:Nat))):n∣(f%n*a-1):=by
 rw[Int.emod_def,Int.sub_mul,Int.mul_assoc]
 have:f*a-n*(f/n*a)-1=(f*a-(1:Nat))-n*(f/n*a):=by omega
 rw[this];exact Int.dvd_sub h (Int.dvd_mul_right ..)
theorem Vx (a n:Int) (w:World) (hn:1≤n) (hn2:n≤1000000000000000000):
  Calls Tryz.prog 133 #[.int .i64 a,.int .i64 n] w fun e w'=>(∃k,w'=w.drewN k) ∧
   ((Int.gcd a n=1 ∧ ∃x:Int,e = .returned (.tuple #[.int .i64 x,.bool true])∧0≤x∧x<n∧n∣(x*a-1)) ∨
    (Int.gcd a n≠1∧e = .returned (.tuple #[.int .i64 0,.bool false]))):=by
 have hst:=Lib.hid (EI.start a n hn);go_enter Tryz.func133,Tryz.ntmps133
 go_wp2_with (go_at_call 190;refine(Qi _ _ _ hn (by omega)).mono ?_;rintro e w' ⟨rfl,rfl⟩)
 go_loopw [6,7,8,9] (fun u v p q wr=>∃(r x f g:Int) (k:Nat),u = .int .i64 r∧v = .int .i64 x∧p = .int .i64 f∧q = .int .i64 g∧Hid (EI a n r x f g)∧wr=w.drewN k) (fun _ v _ _ _=>(intOf v).toNat)
 case atStart=>exact⟨n,a%n,0,1,0,rfl,rfl,rfl,rfl,hst,rfl⟩
 case round=>
  obtain⟨r,x,f,g,k,rfl,rfl,rfl,rfl,hE,rfl⟩:=hrel;have hx0:0≤x:=hE.out.1;have hrx:x<r:=hE.out.2.1;have hrn:r≤n:=hE.out.2.2.1;by_cases hx:x=0
  ·subst hx
   obtain⟨he,hd⟩:=hE.out.last;have He:=Lib.hid he;clear he;by_cases hr:r=1
   ·subst hr
    go_wp2_with (go_at_call 190;refine(Qi _ _ _ hn (by omega)).mono ?_;rintro e w' ⟨rfl,rfl⟩)
    go_ret2
    have h1:Int.gcd a n=1:=by have:=He.out;omega
    refine⟨⟨k,rfl⟩,.inl ⟨h1,f%n,rfl,Int.emod_nonneg _ (by omega),Int.emod_lt_of_pos _ (by omega),?_⟩⟩;rw[h1] at hd;exact NU hd
   ·have hb:(r != 1)=true:=by simpa using hr
    go_wp2
    go_ret2;exact⟨⟨k,rfl⟩,.inr ⟨fun h1=>hr (by have:=He.out;omega),rfl⟩⟩
  ·have hb:(x != 0)=true:=by simpa using hx
   obtain⟨b1,b2,b3,b4,b5,b6,b7,b8,b9⟩:=hE.out.bounds hx
   go_wp2
   have hs:=hE.out.step hx;refine⟨⟨x,r-r/x*x,g,f-r/x*g,k,rfl,rfl,rfl,rfl,Lib.hid hs,rfl⟩,?_⟩;have:=hs.1;have:=hs.2.1;simp[intOf];omega
theorem Dh {m d:Int} (hd:2≤d) (hle:m/d<d) (h:∀e:Int,2≤e→e<d→m%e≠0) (x:Int) (hx:2≤x) (hxm:x<m):m%x≠0:=by
 intro hz;by_cases hxd:x<d
 ·exact h x hx hxd hz
 ·obtain⟨q,hq⟩:=Int.dvd_of_emod_eq_zero hz
  have hq1:1<q:=by
   rcases Int.lt_or_le 1 q with h1 | h1
   ·exact h1
   ·have:=Int.mul_le_mul_of_nonneg_left h1 (show (0:Int)≤x by omega);omega
  have hqd:q<d:=by
   rcases Int.lt_or_le q d with h1 | h1
   ·exact h1
   ·have h2:d≤m/d:=by
     rw[Int.le_ediv_iff_mul_le (by omega)];have a1:=Int.mul_le_mul_of_nonneg_left h1 (show (0:Int)≤x by omega);have a2:=Int.mul_le_mul_of_nonneg_right (show d≤x by omega) (show (0:Int)≤d by omega);omega
    omega
  refine h q (by omega) hqd ?_;rw[hq];exact Int.mul_emod_left x q
def yr (m:Int):Prop:=2≤m ∧ ∀d:Int,2≤d→d<m→m%d≠0
def Al (m:Int) (w:World) (e:Ending) (w':World):Prop:=∃b:Bool,e = .returned (.bool b)∧(b=true↔yr m)∧w=w'
theorem TO (m:Int) (w:World) (h1:0≤m) (h2:m≤999999999):
  Calls Tryz.prog 135 #[.int .i64 m] w (Al m w):=by
 by_cases hm:m<2
 ·go_enter Tryz.func135,Tryz.ntmps135
  go_wp2
  go_ret;exact⟨false,rfl,by unfold yr;simp;omega,rfl⟩
 ·go_enter Tryz.func135,Tryz.ntmps135
  go_wp2
  go_loop [3] (fun u=>∃d:Int,u = .int .i64 d∧2≤d∧d≤m∧Hid (∀e:Int,2≤e→e<d→m%e≠0)) (fun u=>(m-intOf u).toNat)
  case atStart=>exact⟨2,rfl,by omega,by omega,Lib.hid (fun e h3 h4=>by omega)⟩
  case round=>
   obtain⟨d,rfl,h3,h4,h5⟩:=hrel;have hdd:=Int.mul_ediv_self_le (x:=m) (k:=d) (by omega);by_cases hle:d≤m/d
   ·have hdm:d<m:=by
     have:=Int.mul_le_mul_of_nonneg_left hle (show (0:Int)≤d by omega);have:=Int.mul_le_mul_of_nonneg_left h3 (show (0:Int)≤d by omega);omega
    by_cases hz:m%d=0
    ·have hb:(m%d==0)=true:=by simpa using hz
     have Hz:=Lib.hid hz;clear hz
     go_wp2
     go_ret;exact⟨false,rfl,by simp;intro hp;exact hp.2 d h3 hdm Hz.out,rfl⟩
    ·go_wp2
     refine⟨⟨d+1,rfl,by omega,by omega,Lib.hid fun e he1 he2=> ?_⟩,by simp[intOf];omega⟩;by_cases e=d
     ·subst e;exact hz
     ·exact h5.out e he1 (by omega)
   ·go_wp2
    go_ret;exact⟨true,rfl,by simp;exact⟨by omega,fun x hx hxm=>Dh h3 (by omega) h5.out x hx hxm⟩,rfl⟩
def k8:List Int→Int
 | []=>0
 | x::r=>if x=0 then k8 r else x
def jc (xs:List Int):List Value:=xs.map fun x=>Value.int .i64 x
theorem Tn (v:Value) (xs:List Int) (w:World) (hv:Sl w 1 v (jc xs)):
  Calls Tryz.prog 111 #[v] w fun e w'=>e = .returned (.int .i64 (k8 xs))∧w=w':=by
 obtain⟨A,c,rfl,hc1,hc2⟩:=hv.form
 have hl:(jc xs).length=xs.length:=by simp[jc]
 rw[hl] at hc1 hv ⊢;go_enter Tryz.func111,Tryz.ntmps111
 go_wp2
 go_loop [4,7] (fun _ u=>∃k:Nat,u = .int .i64 k∧k≤xs.length∧Hid (k8 (xs.drop k)=k8 xs)) (fun _ u=>xs.length-(intOf u).toNat)
 case atStart=>exact⟨0,rfl,by omega,Lib.hid rfl⟩
 case round=>
  obtain⟨k,rfl,hk,hf⟩:=hrel;by_cases hlt:k<xs.length
  ·obtain⟨b,off,rfl,hb,hcell⟩:=hv.at_ (k:=k) (by omega)
   have hck:=hcell k (by omega);rw[jc,List.getElem?_map,List.getElem?_eq_getElem hlt] at hck;simp only[Option.map_some] at hck;clear hcell hv;have hd:xs.drop k=xs[k]::xs.drop (k+1):=List.drop_eq_getElem_cons hlt;have Hd:=Lib.hid hd;clear hd;by_cases hz:xs[k]=0
   ·have hz':(xs[k] != 0)=false:=by simpa using hz
    have Hz:=Lib.hid hz;clear hz
    go_wp2
    refine⟨⟨k+1,by go_num,by omega,Lib.hid ?_⟩,by simp[intOf];omega⟩;rw[←hf.out,Hd.out];simp[k8,Hz.out]
   ·have hz':(xs[k] != 0)=true:=by simpa using hz
    go_wp2
    go_ret;refine⟨Je ?_,rfl⟩;rw[←hf.out,Hd.out];simp[k8,hz]
  ·have:k=xs.length:=by omega
   subst this
   go_wp2
   go_ret;exact⟨Je (by rw[←hf.out];simp[k8]),rfl⟩
