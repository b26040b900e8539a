/- Contract: clearFirst over the rational numbers. -/
import Derived.Test.YteagkgagdelklaaGreatDoorZT13
set_option maxRecDepth 100000
set_option maxHeartbeats 8000000
namespace Go.Proofs.YteagkgagdelklaaGreatDoor
open Go.RowKit Go.Lib
attribute [local go_sem ↓] Go.wp_at_zero Go.wp_at_succ
theorem TW (w:World) (b o n c b2 c2:Nat) (es es2:List El) (L P:List Rat) (hO:jq w b es L) (hQ:jq w b2 es2 P) (hbb:b2≠b) (hn0:0<n) (hn:o+n=L.length) (hn2:o+n=P.length) (hc1:n≤c) (hc2:c≤9223372036854775807) (_hd1:n≤c2) (_hd2:c2≤9223372036854775807) (hok:Xc o L P):
  Calls Tryz.prog 85 #[.iface 77 (.agg #[]),.slice (some ⟨b,o*3,none⟩) n c,.slice (some ⟨b2,o*3,none⟩) n c2] w fun e w'=>
   e = .returned (.tuple #[])∧(∃es',jq w' b es' (Jx o n L P))∧jk b w w':=by
 have hZ:=Uk;have hZn:=H7;have hM:=H3;have hmn:=H5;have hT:=H6
 have hmf:∀(fn:Fn) (first cap:Array Value) (w:World),(Instr.makeFunc fn first cap).run Tryz.prog w = .ok (.func fn first cap) w:=fun _ _ _ _=>rfl
 have HOK:=hid hok;have HN:=hid hn;have HN2:=hid hn2;have HQl:=hid hQ.own.lt;obtain⟨e,B1,m1,k1,B2,m2,k2,zz0,hee,hrt,y0,y1,y2,zz1,zz2,zz3⟩:=hO.at_ (j:=o) (by omega);clear zz0 zz1 zz2 zz3;obtain⟨e0,ea,eb⟩:=e
 have hea:ea = .slice B1 m1 k1∧eb = .slice B2 m2 k2:=by simpa using hee
 obtain⟨rfl,rfl⟩:=hea;clear hee;unfold qk at hrt;dsimp only at hrt y0;have hbl:=hO.own.lt;have hal:Below w.heap.size w (w.alloc (.cells #[.bool e0,.slice B1 m1 k1,.slice B2 m2 k2] 69)):=(Below.refl _ _).alloc (Nat.le_refl _) _;have hF1:=ja.make w 69 [.bool e0,.slice B1 m1 k1,.slice B2 m2 k2]
 obtain⟨F0,hF0⟩:∃f,L[o]?.getD 0=f:=⟨_,rfl⟩
 have HC:Hid (Jx o n L P=if F0=0 then L else xk 0 (yQ F0) o n L P):=hid (by unfold Jx;rw[hF0]);rw[hF0] at hrt;have HF0:=hid hF0;have HO:=hid hO;have HQ:=hid hQ;clear hO hQ hn hn2 hok hF0;go_enter Tryz.func85,Tryz.ntmps85
 go_wp2_with fail
 refine(Qw _ F0 _ (hrt.below hal)).mono ?_;rintro ee w1 ⟨rfl,hB1⟩;have hB01:Below w.heap.size w w1:=hal.trans (hB1.mono hal.size);by_cases h0:F0=0
 ·have HR2:Hid (∃es',jq w1 b es' (Jx o n L P)):=hid ⟨es,by rw[HC.out,if_pos h0];exact HO.out.below hB01⟩
  have HB2:=hid (jk.of_below (g:=b) hB01);rw[QaK h0];clear h0 hB01 hB1 hal hF1 y0 y1 y2 hrt
  go_wp2
  (try simp only[Exit.inBlock,Exit.then]);refine bodyPost_ret (results_none rfl _ _ _) rfl ?_
  exact⟨rfl,HR2.out,HB2.out⟩
 ·have HC2:Hid (Jx o n L P=xk 0 (yQ F0) o n L P):=hid (by rw[HC.out,if_neg h0])
  rw[Qat h0];have HFx:=hid (hF1.below hB1 (by simp));have HFr:=hid (hrt.below hB01);have HR0:Hid (∃es',jq w1 b es' (xk 0 (yQ F0) o 0 L P)):=hid ⟨es,by rw[Ik];exact HO.out.below hB01⟩;have HQ0:=hid (HQ.out.below hB01);have HB0:=hid (jk.of_below (g:=b) hB01);clear h0 hB01 hB1 hal hF1 y0 y1 y2 hrt HC
  go_wp2_with fail
  go_loopg [17] n (fun gh i wr=>∃k:Nat,i = .int .i64 k∧k+gh=n∧Hid (∃es',jq wr b es' (xk 0 (yQ F0) o k L P))∧Hid (jq wr b2 es2 P)∧Hid (jk b w wr)∧Hid (ja wr w.heap.size 69 [.bool e0,.slice B1 m1 k1,.slice B2 m2 k2])∧Hid (Rt wr (.agg #[.bool e0,.slice B1 m1 k1,.slice B2 m2 k2]) F0))
  case atStart=>exact⟨0,rfl,by omega,HR0,HQ0,HB0,HFx,HFr⟩
  case round=>
   clear HR0 HQ0 HB0 HFx HFr;obtain⟨k,rfl,hk,hR,hP,hB,hX,hFv⟩:=hrel
   cases gk with
   | zero=>
    have hin:¬((k:Int)<(n:Int)):=by omega
    have hkn:k=n:=by omega
    have HR3:Hid (∃es',jq wr b es' (Jx o n L P)):=hid (by rw[HC2.out,←hkn];exact hR.out);clear hkn hk hR hP hX hFv
    go_wp2
    go_end0
    exact⟨rfl,HR3.out,hB.out⟩
   | succ gh=>
    have hlt:k<n:=by omega
    have hlt':(k:Int)<(n:Int):=by omega
    obtain⟨es1,hR1⟩:=hR.out
    have hol:o+k<L.length:=by have:=HN.out;omega
    obtain⟨e,C1,l1,d1,C2,l2,d2,he,hee,hrt,y0,y1,y2,z0,z1,z2⟩:=hR1.at_ (j:=o+k) (by rw[UZ];exact hol);rw[Rl] at hrt;obtain⟨ex,D1,j1,f1,D2,j2,f2,hex,heex,hrtx,u0,u1,u2,zz1,zz2,zz3⟩:=hP.out.at_ (j:=o+k) (by have:=HN2.out;omega);clear zz1 zz2 zz3;rw[Qaz] at y0 y1 y2 z0 z1 z2 u0 u1 u2;obtain⟨s3,ea,eb⟩:=e
    have hea:ea = .slice C1 l1 d1∧eb = .slice C2 l2 d2:=by simpa using hee
    obtain⟨rfl,rfl⟩:=hea;obtain⟨s4,ec,ed⟩:=ex
    have hec:ec = .slice D1 j1 f1∧ed = .slice D2 j2 f2:=by simpa using heex
    obtain⟨rfl,rfl⟩:=hec;clear hee heex he hex;unfold qk at hrt hrtx;dsimp only at hrt y0 hrtx u0
    have hy:L[o+k]? =some (L[o+k]?.getD 0):=by rw[Qaa hol];rfl
    have hfx:=HOK.out.2 (o+k) (by omega) hol;rw[HF0.out] at hfx;have Hsame:=hid (Ij 0 (yQ F0) o k L P _ hy);have Hsucc:=hid (Rm 0 (yQ F0) o k L P _ hy);have Hfx:=hid hfx;have Hk:=hid hk;have HR1:=hid hR1;have hbl1:=hR1.own.lt;have hPl:=hP.out.own.lt;clear hy hol hfx hk hR1 hR;generalize L[o+k]?.getD 0=y at *;generalize P[o+k]?.getD 0=x at *;have hal:Below wr.heap.size wr (wr.alloc (.cells #[.bool s4,.slice D1 j1 f1,.slice D2 j2 f2] 69)):=(Below.refl _ _).alloc (Nat.le_refl _) _;have hXX:=ja.make wr 69 [.bool s4,.slice D1 j1 f1,.slice D2 j2 f2];have hXl:=hX.out.lt
    go_wp2_with fail
    refine(Qw _ x _ (hrtx.below hal)).mono ?_;rintro ee w2 ⟨rfl,hB2⟩;have hB12:Below wr.heap.size wr w2:=hal.trans (hB2.mono hal.size);by_cases h1:x=0
    ·have HR2:Hid (∃es',jq w2 b es' (xk 0 (yQ F0) o (k+1) L P)):=hid ⟨es1,by rw[Hsame.out (by unfold yQ;rw[if_pos h1])];exact HR1.out.below hB12⟩
     have HB2:=hid (hB.out.below hB12);have HX2:=hid (hX.out.below hB12 hXl);have HD2:=hid (hFv.out.below hB12);have HP2:=hid (hP.out.below hB12);rw[QaK h1];clear h1 hB12 hB2 hal hXX y0 y1 y2 z0 z1 z2 u0 u1 u2 HR1 hB hX hFv hrt hrtx hXl hP
     go_wp2
     go_roundg gh
     case rel=>exact⟨k+1,by go_num,by have:=Hk.out;omega,HR2,HP2,HB2,HX2,HD2⟩
     case measure=>omega
    ·have Hv:Hid (yQ F0 y x=y-F0*x):=hid (by unfold yQ;rw[if_neg h1])
     rw[Qat h1];have hX2:=hX.out.below hB12 hXl;have hXX2:=hXX.below hB2 (by simp);obtain⟨a0,a1,a2,zz1,zz2,zz3⟩:=hX2.three;clear zz1 zz2 zz3;obtain⟨b0,b1,b2',zz1,zz2,zz3⟩:=hXX2.three;clear zz1 zz2 zz3;have g0:=(hB12.cell (p:=⟨b,o*3+k*3,none⟩) hbl1).trans y0;have g1:=(hB12.cell (p:=⟨b,o*3+k*3+1,none⟩) hbl1).trans y1;have g2:=(hB12.cell (p:=⟨b,o*3+k*3+2,none⟩) hbl1).trans y2;have i0:=(hB12.frozen (p:=⟨b,o*3+k*3,none⟩) hbl1).trans z0;have i1:=(hB12.frozen (p:=⟨b,o*3+k*3+1,none⟩) hbl1).trans z1;have i2:=(hB12.frozen (p:=⟨b,o*3+k*3+2,none⟩) hbl1).trans z2;have hb2l:b<w2.heap.size:=Qac hbl1 hB12.size;have hX2l:=hX2.lt;have hXX2l:=hXX2.lt;have FX:=hid (hFv.out.below hB12);have XX:=hid (hrtx.below hB12);have YY:=hid (hrt.below hB12);have TM:=hid (fun (W:World) (h:Rt W (.agg #[.bool e0,.slice B1 m1 k1,.slice B2 m2 k2]) F0) (h':Rt W (.agg #[.bool s4,.slice D1 j1 f1,.slice D2 j2 f2]) x)=>M0 _ _ F0 x W h h' (by have:=HOK.out.1.1;rw[HF0.out] at this;exact this) (by have:=HOK.out.1.2;rw[HF0.out] at this;exact this) Hfx.out.1.1 Hfx.out.1.2);have MN:=hid (fun (W:World) (u:Value) (h:Rt W (.agg #[.bool s3,.slice C1 l1 d1,.slice C2 l2 d2]) y) (h':Rt W u (F0*x))=>MZ _ u y (F0*x) W h h' Hfx.out.2);have HB12:=hid hB12;clear h1 hB12 hB2 hal hXX y0 y1 y2 z0 z1 z2 u0 u1 u2 hX2 hXX2 hrt hrtx
     go_wp2_with fail
     go_region_with (first
      | (go_at_call 253;refine(TM.out _ (FX.out.below (Below.refl _ _).drew) (XX.out.below (Below.refl _ _).drew)).mono ?_;rintro ee w3 ⟨tv,rfl,htv,hB3⟩;obtain⟨s5,A5,n5,c5,A6,n6,c6,rfl⟩:=htv.shape;have q0:=(hB3.cell (p:=⟨b,o*3+k*3,none⟩) hb2l).trans g0;have q1:=(hB3.cell (p:=⟨b,o*3+k*3+1,none⟩) hb2l).trans g1;have q2:=(hB3.cell (p:=⟨b,o*3+k*3+2,none⟩) hb2l).trans g2;have r0:=(hB3.frozen (p:=⟨b,o*3+k*3,none⟩) hb2l).trans i0;have r1:=(hB3.frozen (p:=⟨b,o*3+k*3+1,none⟩) hb2l).trans i1;have r2:=(hB3.frozen (p:=⟨b,o*3+k*3+2,none⟩) hb2l).trans i2;have hb3l:b<w3.heap.size:=Qac hb2l hB3.size;have HT3:=hid htv;have HB3:=hid hB3;clear htv hB3)
      | (go_at_call 250;refine(MN.out _ _ (YY.out.below (xJ HB3.out)) HT3.out).mono ?_;rintro ee w4 ⟨mv,rfl,hmv,hB4⟩;obtain⟨s7,A7,n7,c7,A8,n8,c8,rfl⟩:=hmv.shape;have v0:=(hB4.cell (p:=⟨b,o*3+k*3,none⟩) hb3l).trans q0;have v1:=(hB4.cell (p:=⟨b,o*3+k*3+1,none⟩) hb3l).trans q1;have v2:=(hB4.cell (p:=⟨b,o*3+k*3+2,none⟩) hb3l).trans q2;have x0:=(hB4.frozen (p:=⟨b,o*3+k*3,none⟩) hb3l).trans r0;have x1:=(hB4.frozen (p:=⟨b,o*3+k*3+1,none⟩) hb3l).trans r1;have x2:=(hB4.frozen (p:=⟨b,o*3+k*3+2,none⟩) hb3l).trans r2;have HM4:=hid hmv;have HB4:=hid hB4;clear hmv hB4))
     all_goals (
      have HB14:Hid (Below wr.heap.size wr w4):=hid ((HB12.out.trans ((xJ HB3.out).mono HB12.out.size)).trans (HB4.out.mono (Qap HB12.out.size HB3.out.size)));have HPt:=hid ((HR1.out.below HB14.out).put (j:=o+k) (e:=(s7,.slice A7 n7 c7,.slice A8 n8 c8)) (q:=y-F0*x) (by rw[UZ];have:=HN.out;omega) HM4.out);rw[Qaz,←Hv.out,Hsucc.out] at HPt;dsimp only at HPt;have HBt:=hid ((hB.out.below HB14.out).trans (jk.set3 w4 b (o*3+k*3) (.bool s7) (.slice A7 n7 c7) (.slice A8 n8 c8)))
      have hne:w.heap.size≠b:=fun e=>by have:=HO.out.own.lt;omega
      have HXt:=hid ((hX.out.below HB14.out hXl).but (jk.set3 w4 b (o*3+k*3) (.bool s7) (.slice A7 n7 c7) (.slice A8 n8 c8)) hne);have HFt:=hid ((hFv.out.below HB14.out).stay (HR1.out.below HB14.out).own (HR1.out.below HB14.out).noInt (jk.set3 w4 b (o*3+k*3) (.bool s7) (.slice A7 n7 c7) (.slice A8 n8 c8)));have HQt:=hid ((hP.out.below HB14.out).stay (HR1.out.below HB14.out).own (HR1.out.below HB14.out).noInt (jk.set3 w4 b (o*3+k*3) (.bool s7) (.slice A7 n7 c7) (.slice A8 n8 c8)) hbb);clear a0 a1 a2 b0 b1 b2' g0 g1 g2 i0 i1 i2 q0 q1 q2 r0 r1 r2 v0 v1 v2 x0 x1 x2 HM4 HT3 HB3 HB4 TM MN FX XX YY HB14 hX hFv hB hP HR1 hne
      go_wp2
      go_roundg gh
      case rel=>exact⟨k+1,by go_num,by have:=Hk.out;omega,hid ⟨_,HPt.out⟩,HQt,HBt,HXt,HFt⟩
      case measure=>omega)
