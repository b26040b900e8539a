/- Contract: steps of Euclid's algorithm that the highest words tell. -/
import Derived.Test.YtneafcdfnhnpnaaGreatDoorZK18
set_option maxRecDepth 100000
set_option maxHeartbeats 8000000
namespace Go.Proofs.YtneafcdfnhnpnaaGreatDoor
open Go.RowKit Go.Lib
def JK (x y:Nat):List Value:=[.int .u64 (x:Int),.int .u64 (y:Int)]
structure Jn (w wr:World) (up vp uk vk un vn:Nat):Prop where
 o0:ja wr w.heap.size 257 [.int .u64 0,.int .u64 0,.int .u64 0,.int .u64 0,.bool false]
 o1:ja wr (w.heap.size+1) 255 (JK up vp)
 o2:ja wr (w.heap.size+1+1) 255 (JK uk vk)
 o3:ja wr (w.heap.size+1+1+1) 255 (JK un vn)
 blw:Below w.heap.size w wr
theorem Jn.start (w:World):Jn w ((((w.alloc (.cells #[.int .u64 0,.int .u64 0,.int .u64 0,.int .u64 0,.bool false] 257)).alloc (.cells #[.int .u64 0,.int .u64 0] 255)).alloc (.cells #[.int .u64 1,.int .u64 0] 255)).alloc (.cells #[.int .u64 0,.int .u64 1] 255)) 0 0 1 0 0 1:=by
 have s1:(w.alloc (.cells #[.int .u64 0,.int .u64 0,.int .u64 0,.int .u64 0,.bool false] 257)).heap.size=w.heap.size+1:=by simp
 have s2:((w.alloc (.cells #[.int .u64 0,.int .u64 0,.int .u64 0,.int .u64 0,.bool false] 257)).alloc (.cells #[.int .u64 0,.int .u64 0] 255)).heap.size=w.heap.size+1+1:=by simp
 have s3:(((w.alloc (.cells #[.int .u64 0,.int .u64 0,.int .u64 0,.int .u64 0,.bool false] 257)).alloc (.cells #[.int .u64 0,.int .u64 0] 255)).alloc (.cells #[.int .u64 1,.int .u64 0] 255)).heap.size=w.heap.size+1+1+1:=by simp
 refine⟨(((ja.make w 257 _).alloc _).alloc _).alloc _,?_,?_,?_,?_⟩
 ·have h:=((ja.make (w.alloc (.cells #[.int .u64 0,.int .u64 0,.int .u64 0,.int .u64 0,.bool false] 257)) 255 (JK 0 0)).alloc (.cells #[.int .u64 1,.int .u64 0] 255)).alloc (.cells #[.int .u64 0,.int .u64 1] 255)
  rw[s1] at h;exact h
 ·have h:=(ja.make ((w.alloc (.cells #[.int .u64 0,.int .u64 0,.int .u64 0,.int .u64 0,.bool false] 257)).alloc (.cells #[.int .u64 0,.int .u64 0] 255)) 255 (JK 1 0)).alloc (.cells #[.int .u64 0,.int .u64 1] 255)
  rw[s2] at h;exact h
 ·have h:=ja.make (((w.alloc (.cells #[.int .u64 0,.int .u64 0,.int .u64 0,.int .u64 0,.bool false] 257)).alloc (.cells #[.int .u64 0,.int .u64 0] 255)).alloc (.cells #[.int .u64 1,.int .u64 0] 255)) 255 (JK 0 1)
  rw[s3] at h;exact h
 ·exact((((Below.refl _ _).alloc (Nat.le_refl _) _).alloc (by omega) _).alloc (by omega) _).alloc (by omega) _
theorem Jn.next {w wr:World} {up vp uk vk un vn:Nat} (h:Jn w wr up vp uk vk un vn) (k a b c d e f:Nat):Jn w (((((((wr.drewN k).setCell ⟨w.heap.size+1,0,none⟩ (.int .u64 (a:Int))).setCell ⟨w.heap.size+1,1,none⟩ (.int .u64 (b:Int))).setCell ⟨w.heap.size+1+1,0,none⟩ (.int .u64 (c:Int))).setCell ⟨w.heap.size+1+1,1,none⟩ (.int .u64 (d:Int))).setCell ⟨w.heap.size+1+1+1,0,none⟩ (.int .u64 (e:Int))).setCell ⟨w.heap.size+1+1+1,1,none⟩ (.int .u64 (f:Int))) a b c d e f:=by
 refine⟨?_,?_,?_,?_,?_⟩
 ·exact((((((h.o0.drewN k).other (p:=⟨w.heap.size+1,0,none⟩) (by simp) _).other (p:=⟨w.heap.size+1,1,none⟩) (by simp) _).other (p:=⟨w.heap.size+1+1,0,none⟩) (by simp <;> omega) _).other (p:=⟨w.heap.size+1+1,1,none⟩) (by simp <;> omega) _).other (p:=⟨w.heap.size+1+1+1,0,none⟩) (by simp <;> omega) _).other (p:=⟨w.heap.size+1+1+1,1,none⟩) (by simp <;> omega) _
 ·exact((((((h.o1.drewN k).put 0 _).put 1 _).other (p:=⟨w.heap.size+1+1,0,none⟩) (by simp) _).other (p:=⟨w.heap.size+1+1,1,none⟩) (by simp) _).other (p:=⟨w.heap.size+1+1+1,0,none⟩) (by simp <;> omega) _).other (p:=⟨w.heap.size+1+1+1,1,none⟩) (by simp <;> omega) _
 ·exact((((((h.o2.drewN k).other (p:=⟨w.heap.size+1,0,none⟩) (by simp) _).other (p:=⟨w.heap.size+1,1,none⟩) (by simp) _).put 0 _).put 1 _).other (p:=⟨w.heap.size+1+1+1,0,none⟩) (by simp) _).other (p:=⟨w.heap.size+1+1+1,1,none⟩) (by simp) _
 ·exact((((((h.o3.drewN k).other (p:=⟨w.heap.size+1,0,none⟩) (by simp <;> omega) _).other (p:=⟨w.heap.size+1,1,none⟩) (by simp <;> omega) _).other (p:=⟨w.heap.size+1+1,0,none⟩) (by simp) _).other (p:=⟨w.heap.size+1+1,1,none⟩) (by simp) _).put 0 _).put 1 _
 ·exact((((((below_drewN h.blw k).setCell (by simp <;> omega) _).setCell (by simp <;> omega) _).setCell (by simp <;> omega) _).setCell (by simp <;> omega) _).setCell (by simp <;> omega) _).setCell (by simp <;> omega) _
def C0 (a b:Nat) (w:World) (e:Ending) (w':World):Prop:=∃(s:Bool) (hk hn up vp uk vk un vn h0 h1:Nat) (x y z:Int),e = .returned (.agg #[.int .u64 up,.int .u64 vp,.int .u64 uk,.int .u64 vk,.bool s])∧Lh a b h0 h1 s hk hn up vp uk vk un vn x y z∧up<WB∧vp<WB∧uk<WB∧vk<WB∧Below w.heap.size w w'
def ZC (a b c d e f:Nat):Prop:=a<WB∧b<WB∧c<WB∧d<WB∧e<WB∧f<WB
theorem GD (v u:Value) (a b:Nat) (w:World) (hv:Nt w v a) (hu:Nt w u b) (hba:b≤a) (haw:WB≤a) (ha:km a):
  Calls Tryz.prog 221 #[v,u] w (C0 a b w):=by
 have HW:=hid (fun (W:World) (hB:Below w.heap.size w W)=>TS v u a b W (hv.below hB) (hu.below hB) hba haw ha);obtain⟨A,n,c,rfl,_⟩:=hv.size_;obtain⟨B,m,d,rfl,_⟩:=hu.size_;clear hv hu hba haw ha;go_enter Tryz.func221,Tryz.ntmps221
 go_wp2_with fail
 refine(HW.out _ ((Below.refl _ _).alloc (Nat.le_refl _) _)).mono ?_;rintro e w1 ⟨h0,h1,P,ra,rb,rfl,ea,eb,hra,hrb,hle,hlt,rfl⟩;have HE:=hid (And.intro ea (And.intro eb (And.intro hra (And.intro hrb (And.intro hle hlt)))));clear ea eb hra hrb hle hlt HW;have HS0:=hid (Jn.start w);have HL0:Hid (Lh a b h0 h1 false h0 h1 0 0 1 0 0 1 0 a b):=hid (Lh.start HE.out.2.2.2.2.1)
 go_wp2_with fail
 go_loopg [5,6,10] h1 (fun gh v5 v6 v10 wr=>∃(s:Bool) (hk hn up vp uk vk un vn:Nat) (x y z:Int),v5 = .int .u64 hk∧v6 = .int .u64 hn∧v10 = .bool s∧hn≤gh∧Hid (Lh a b h0 h1 s hk hn up vp uk vk un vn x y z)∧Hid (ZC up vp uk vk un vn)∧Hid (hk<WB)∧Hid (Jn w wr up vp uk vk un vn))
 case atStart=>exact⟨false,h0,h1,0,0,1,0,0,1,0,a,b,rfl,rfl,rfl,Nat.le_refl _,HL0,hid (by unfold ZC WB;omega),hid HE.out.2.2.2.2.2,HS0⟩
 case round=>
  clear HS0 HL0;obtain⟨s,hk,hn,up,vp,uk,vk,un,vn,x,y,z,rfl,rfl,rfl,hgh,hL,h6,hkw,hM⟩:=hrel;have p10:=hM.out.o1.cell 0;have p11:=hM.out.o1.cell 1;have p20:=hM.out.o2.cell 0;have p21:=hM.out.o2.cell 1;have p30:=hM.out.o3.cell 0;have p31:=hM.out.o3.cell 1;have q10:=hM.out.o1.free 0;have q11:=hM.out.o1.free 1;have q20:=hM.out.o2.free 0;have q21:=hM.out.o2.free 1;have q30:=hM.out.o3.free 0;have q31:=hM.out.o3.free 1;have p00:=hM.out.o0.cell 0;have p01:=hM.out.o0.cell 1;have p02:=hM.out.o0.cell 2;have p03:=hM.out.o0.cell 3;have p04:=hM.out.o0.cell 4;have q00:=hM.out.o0.free 0;have q01:=hM.out.o0.free 1;have q02:=hM.out.o0.free 2;have q03:=hM.out.o0.free 3;have q04:=hM.out.o0.free 4;have sz:=hM.out.o3.lt;simp only[JK,List.getElem?_cons_zero,List.getElem?_cons_succ] at p00 p01 p02 p03 p04 p10 p11 p20 p21 p30 p31;by_cases t1:vn≤hn
  ·have t1I:(vn:Int)≤(hn:Int):=by omega
   by_cases t2:vk+vn≤hk-hn
   ·have hle:=hL.out.hle
    have hv1:=hL.out.vpos
    have hn0:1≤hn:=by omega
    obtain⟨s1,s2⟩:=hL.out.small hn0;have hlt0:=HE.out.2.2.2.2.2;have hkw':=hkw.out
    obtain⟨q,hq⟩:∃q,q=hk/hn:=⟨_,rfl⟩
    have HL2:=hid (hL.out.step (hL.out.sure HE.out.1 HE.out.2.1 HE.out.2.2.1 HE.out.2.2.2.1 t1 t2) hq hn0);rw[←hq] at s2;have hun:q*un≤q*vn:=Nat.mul_le_mul_left _ hL.out.le1;have hu2:=HL2.out.le1
    have w1:IntKind.u64.wrap ((hk:Int)-(hn:Int))=((hk-hn:Nat):Int):=by
     rw[show (hk:Int)-(hn:Int)=((hk-hn:Nat):Int) by omega];exact wrap_u64 _ (by omega)
    have w2:IntKind.u64.wrap ((vk:Int)+(vn:Int))=((vk+vn:Nat):Int):=by rw[←Int.natCast_add];exact wrap_u64 _ (by omega)
    have w3:(hk:Int)/(hn:Int)=(q:Int):=by rw[hq,Int.natCast_ediv]
    have w4:(hk:Int)%(hn:Int)=((hk%hn:Nat):Int):=by rw[Int.natCast_emod]
    have w5:IntKind.u64.wrap ((q:Int)*(un:Int))=((q*un:Nat):Int):=by rw[←Int.natCast_mul];exact wrap_u64 _ (by omega)
    have w6:IntKind.u64.wrap ((q:Int)*(vn:Int))=((q*vn:Nat):Int):=by rw[←Int.natCast_mul];exact wrap_u64 _ (by omega)
    have w7:IntKind.u64.wrap ((uk:Int)+((q*un:Nat):Int))=((uk+q*un:Nat):Int):=by rw[←Int.natCast_add];exact wrap_u64 _ (by omega)
    have w8:IntKind.u64.wrap ((vk:Int)+((q*vn:Nat):Int))=((vk+q*vn:Nat):Int):=by rw[←Int.natCast_add];exact wrap_u64 _ (by omega)
    have w9:IntKind.u64.wrap (q:Int)=(q:Int):=wrap_u64 _ (by rw[hq];exact Nat.lt_of_le_of_lt (Nat.div_le_self _ _) hkw')
    have t2I:((vk+vn:Nat):Int)≤((hk-hn:Nat):Int):=by omega
    have hnz:((hn:Int)==0)=false:=by simpa using (by omega:¬(hn:Int)=0)
    have hnz2:¬(hn:Int)=0:=by omega
    have H62:Hid (ZC uk vk un vn (uk+q*un) (vk+q*vn)):=hid ⟨h6.out.2.2.1,h6.out.2.2.2.1,h6.out.2.2.2.2.1,h6.out.2.2.2.2.2,by omega,by omega⟩;have Hnw:Hid (hn<WB):=hid (by omega);have hmod:=Nat.mod_lt hk hn0;generalize uk+q*un=un2 at *;generalize vk+q*vn=vn2 at *;generalize q*un=m1 at *;generalize q*vn=m2 at *;generalize hk%hn=hr at *;generalize vk+vn=m3 at *;generalize hk-hn=m4 at *;have Hq:=hid (And.intro hq (And.intro t1 (And.intro t2 (And.intro s1 s2))));have Hg:Hid (hr≤gk-1∧1≤gk):=hid ⟨by omega,by omega⟩;clear hq t1 t2 s1 s2 hun hu2 hmod hv1 hkw' hlt0
    go_wp2
    go_quiet (fail)
    go_upto_region 7 with fail
    go_region
    go_wp2
    cases gk with
    | zero=>exact absurd Hg.out.2 (by omega)
    | succ gh=>
     go_roundg gh
     case rel=>exact⟨!s,hn,hr,uk,vk,un,vn,un2,vn2,y,z,_,rfl,by rw[w4],rfl,Hg.out.1,HL2,H62,Hnw,hid (hM.out.next _ uk vk un vn un2 vn2)⟩
     case measure=>omega
   ·have hle:=hL.out.hle
    have hv1:=hL.out.vpos;obtain⟨s1,s2⟩:=hL.out.small (by omega);have hlt0:=HE.out.2.2.2.2.2;have hkw':=hkw.out
    have w1:IntKind.u64.wrap ((hk:Int)-(hn:Int))=((hk-hn:Nat):Int):=by
     rw[show (hk:Int)-(hn:Int)=((hk-hn:Nat):Int) by omega];exact wrap_u64 _ (by omega)
    have w2:IntKind.u64.wrap ((vk:Int)+(vn:Int))=((vk+vn:Nat):Int):=by rw[←Int.natCast_add];exact wrap_u64 _ (by omega)
    have t2I:¬((vk+vn:Nat):Int)≤((hk-hn:Nat):Int):=by omega
    clear s1 s2 hlt0 hkw' t1 t2 hle hv1;generalize vk+vn=m3 at *;generalize hk-hn=m4 at *
    go_wp2
    exact bodyPost_ret (v:= .agg #[.int .u64 up,.int .u64 vp,.int .u64 uk,.int .u64 vk,.bool s]) (by simp[results,Tryz.results221,go_sem,p00,p01,p02,p03,p04]) rfl ⟨s,hk,hn,up,vp,uk,vk,un,vn,h0,h1,x,y,z,rfl,hL.out,h6.out.1,h6.out.2.1,h6.out.2.2.1,h6.out.2.2.2.1,((((hM.out.blw.setCell (by simp) _).setCell (by simp) _).setCell (by simp) _).setCell (by simp) _).setCell (by simp) _⟩
  ·have t1I:¬(vn:Int)≤(hn:Int):=by omega
   clear t1
   go_wp2
   exact bodyPost_ret (v:= .agg #[.int .u64 up,.int .u64 vp,.int .u64 uk,.int .u64 vk,.bool s]) (by simp[results,Tryz.results221,go_sem,p00,p01,p02,p03,p04]) rfl ⟨s,hk,hn,up,vp,uk,vk,un,vn,h0,h1,x,y,z,rfl,hL.out,h6.out.1,h6.out.2.1,h6.out.2.2.1,h6.out.2.2.2.1,((((hM.out.blw.setCell (by simp) _).setCell (by simp) _).setCell (by simp) _).setCell (by simp) _).setCell (by simp) _⟩
theorem Vz (up vp uk vk:Nat) (s:Bool) (w:World):
  Calls Tryz.prog 222 #[.agg #[.int .u64 up,.int .u64 vp,.int .u64 uk,.int .u64 vk,.bool s]] w fun e w'=>e = .returned (.bool (decide (vp=0)))∧Below w.heap.size w w':=by
 by_cases h:vp=0
 ·subst h
  go_enter Tryz.func222,Tryz.ntmps222
  go_wp2
  go_ret;exact⟨rfl,(Below.refl _ _).alloc (Nat.le_refl _) _⟩
 ·have hb:((vp:Int)==0)=false:=by simpa using h
  have hd:=hid (decide_eq_false h);clear h;go_enter Tryz.func222,Tryz.ntmps222
  go_wp2
  go_ret;exact⟨by rw[hd.out];rfl,(Below.refl _ _).alloc (Nat.le_refl _) _⟩
def QZ (X Y:Nat) (w:World) (e:Ending) (w':World):Prop:=∃g l,e = .returned (.tuple #[g,l])∧Nt w' g X∧Nt w' l Y∧Below w.heap.size w w'
theorem Ez (v u:Value) (a b up vp uk vk:Nat) (w:World) (hv:Nt w v a) (hu:Nt w u b) (ha:km a) (hb:km b) (h1:up<WB) (h2:vp<WB) (h3:uk<WB) (h4:vk<WB) (hg:vp*b≤up*a) (hl:uk*a≤vk*b):
  Calls Tryz.prog 224 #[.agg #[.int .u64 up,.int .u64 vp,.int .u64 uk,.int .u64 vk,.bool true],v,u] w (QZ (up*a-vp*b) (vk*b-uk*a) w):=by
 have D1:=hid (fun (z:World) (hB:Below w.heap.size w z)=>QV v u a b up vp z (hv.below hB) (hu.below hB) ha hb h1 h2 hg);have D2:=hid (fun (z:World) (hB:Below w.heap.size w z)=>QV u v b a vk uk z (hu.below hB) (hv.below hB) hb ha h4 h3 hl);obtain⟨A,n,c,rfl,_⟩:=hv.size_;obtain⟨B,m,d,rfl,_⟩:=hu.size_;have HO:Hid (ja (w.alloc (.cells #[.int .u64 up,.int .u64 vp,.int .u64 uk,.int .u64 vk,.bool true] 257)) w.heap.size 257 [.int .u64 up,.int .u64 vp,.int .u64 uk,.int .u64 vk,.bool true]):=hid (ja.make w _ _);clear hv hu ha hb h1 h2 h3 h4 hg hl;go_enter Tryz.func224,Tryz.ntmps224
 go_upto_region 2 with fail
 obtain⟨w1,hw1⟩:∃w1,w1=w.alloc (.cells #[.int .u64 up,.int .u64 vp,.int .u64 uk,.int .u64 vk,.bool true] 257):=⟨_,rfl⟩
 have HB1:Hid (Below w.heap.size w w1):=hid (by rw[hw1];exact(Below.refl _ _).alloc (Nat.le_refl _) _);rw[←hw1] at HO ⊢;clear hw1;have k0:=HO.out.cell 0;have k1:=HO.out.cell 1;have k2:=HO.out.cell 2;have k3:=HO.out.cell 3;have sz:=HO.out.lt;simp only[List.getElem?_cons_zero,List.getElem?_cons_succ] at k0 k1 k2 k3
 have KS:Hid (∀z,Below w1.heap.size w1 z→z.cell? ⟨w.heap.size,0,none⟩=some (.int .u64 up)∧z.cell? ⟨w.heap.size,1,none⟩=some (.int .u64 vp)∧z.cell? ⟨w.heap.size,2,none⟩=some (.int .u64 uk)∧z.cell? ⟨w.heap.size,3,none⟩=some (.int .u64 vk)∧Below w1.heap.size w1 z):=hid (fun z hb=>
  ⟨(hb.cell (p:=⟨w.heap.size,0,none⟩) sz).trans k0,(hb.cell (p:=⟨w.heap.size,1,none⟩) sz).trans k1,(hb.cell (p:=⟨w.heap.size,2,none⟩) sz).trans k2,(hb.cell (p:=⟨w.heap.size,3,none⟩) sz).trans k3,hb⟩)
 have KT:=hid (fun (x x':World) (hb:Below x.heap.size x x') (h5:Below w1.heap.size w1 x)=>KS.out x' (h5.trans (hb.mono h5.size)));have E1:=hid (fun (z:World) (hB:Below w1.heap.size w1 z)=>D1.out z (HB1.out.trans (hB.mono HB1.out.size)));have E2:=hid (fun (z:World) (hB:Below w1.heap.size w1 z)=>D2.out z (HB1.out.trans (hB.mono HB1.out.size)));clear D1 D2 HO k0 k1 k2 k3
 go_region_held3 (fun z=>z.cell? ⟨w.heap.size,0,none⟩=some (.int .u64 up)∧z.cell? ⟨w.heap.size,1,none⟩=some (.int .u64 vp)∧z.cell? ⟨w.heap.size,2,none⟩=some (.int .u64 uk)∧z.cell? ⟨w.heap.size,3,none⟩=some (.int .u64 vk)∧Below w1.heap.size w1 z)
  (first | exact KS.out _ (Below.refl _ _).drew | exact KT.out _ _ (by assumption) (by assumption))
  (first
   | (go_at_call 248;go_split_ands;with_reducible refine(E1.out _ (by assumption)).mono ?_;rintro e4 w4 ⟨g,rfl,hg,hB4⟩)
   | (go_at_call 248;go_split_ands;with_reducible refine(E2.out _ (by assumption)).mono ?_;rintro e5 w5 ⟨l,rfl,hl,hB5⟩))
 rename_i hH;have HF:Hid (QZ (up*a-vp*b) (vk*b-uk*a) w (.returned (.tuple #[g,l])) w5):=hid ⟨g,l,rfl,hg.below hB5,hl,HB1.out.trans (hH.2.2.2.2.mono HB1.out.size)⟩;clear hH hg hB4 hl hB5 KS KT E1 E2
 go_wp2
 go_ret2;exact HF.out
theorem Ey (v u:Value) (a b up vp uk vk:Nat) (w:World) (hv:Nt w v a) (hu:Nt w u b) (ha:km a) (hb:km b) (h1:up<WB) (h2:vp<WB) (h3:uk<WB) (h4:vk<WB) (hg:up*a≤vp*b) (hl:vk*b≤uk*a):
  Calls Tryz.prog 224 #[.agg #[.int .u64 up,.int .u64 vp,.int .u64 uk,.int .u64 vk,.bool false],v,u] w (QZ (vp*b-up*a) (uk*a-vk*b) w):=by
 have D1:=hid (fun (z:World) (hB:Below w.heap.size w z)=>QV u v b a vp up z (hu.below hB) (hv.below hB) hb ha h2 h1 hg);have D2:=hid (fun (z:World) (hB:Below w.heap.size w z)=>QV v u a b uk vk z (hv.below hB) (hu.below hB) ha hb h3 h4 hl);obtain⟨A,n,c,rfl,_⟩:=hv.size_;obtain⟨B,m,d,rfl,_⟩:=hu.size_;have HO:Hid (ja (w.alloc (.cells #[.int .u64 up,.int .u64 vp,.int .u64 uk,.int .u64 vk,.bool false] 257)) w.heap.size 257 [.int .u64 up,.int .u64 vp,.int .u64 uk,.int .u64 vk,.bool false]):=hid (ja.make w _ _);clear hv hu ha hb h1 h2 h3 h4 hg hl;go_enter Tryz.func224,Tryz.ntmps224
 go_upto_region 3 with fail
 obtain⟨w1,hw1⟩:∃w1,w1=w.alloc (.cells #[.int .u64 up,.int .u64 vp,.int .u64 uk,.int .u64 vk,.bool false] 257):=⟨_,rfl⟩
 have HB1:Hid (Below w.heap.size w w1):=hid (by rw[hw1];exact(Below.refl _ _).alloc (Nat.le_refl _) _);rw[←hw1] at HO ⊢;clear hw1;have k0:=HO.out.cell 0;have k1:=HO.out.cell 1;have k2:=HO.out.cell 2;have k3:=HO.out.cell 3;have sz:=HO.out.lt;simp only[List.getElem?_cons_zero,List.getElem?_cons_succ] at k0 k1 k2 k3
 have KS:Hid (∀z,Below w1.heap.size w1 z→z.cell? ⟨w.heap.size,0,none⟩=some (.int .u64 up)∧z.cell? ⟨w.heap.size,1,none⟩=some (.int .u64 vp)∧z.cell? ⟨w.heap.size,2,none⟩=some (.int .u64 uk)∧z.cell? ⟨w.heap.size,3,none⟩=some (.int .u64 vk)∧Below w1.heap.size w1 z):=hid (fun z hb=>
  ⟨(hb.cell (p:=⟨w.heap.size,0,none⟩) sz).trans k0,(hb.cell (p:=⟨w.heap.size,1,none⟩) sz).trans k1,(hb.cell (p:=⟨w.heap.size,2,none⟩) sz).trans k2,(hb.cell (p:=⟨w.heap.size,3,none⟩) sz).trans k3,hb⟩)
 have KT:=hid (fun (x x':World) (hb:Below x.heap.size x x') (h5:Below w1.heap.size w1 x)=>KS.out x' (h5.trans (hb.mono h5.size)));have E1:=hid (fun (z:World) (hB:Below w1.heap.size w1 z)=>D1.out z (HB1.out.trans (hB.mono HB1.out.size)));have E2:=hid (fun (z:World) (hB:Below w1.heap.size w1 z)=>D2.out z (HB1.out.trans (hB.mono HB1.out.size)));clear D1 D2 HO k0 k1 k2 k3
 go_region_held3 (fun z=>z.cell? ⟨w.heap.size,0,none⟩=some (.int .u64 up)∧z.cell? ⟨w.heap.size,1,none⟩=some (.int .u64 vp)∧z.cell? ⟨w.heap.size,2,none⟩=some (.int .u64 uk)∧z.cell? ⟨w.heap.size,3,none⟩=some (.int .u64 vk)∧Below w1.heap.size w1 z)
  (first | exact KS.out _ (Below.refl _ _).drew | exact KT.out _ _ (by assumption) (by assumption))
  (first
   | (go_at_call 248;go_split_ands;with_reducible refine(E1.out _ (by assumption)).mono ?_;rintro e4 w4 ⟨g,rfl,hg,hB4⟩)
   | (go_at_call 248;go_split_ands;with_reducible refine(E2.out _ (by assumption)).mono ?_;rintro e5 w5 ⟨l,rfl,hl,hB5⟩))
 rename_i hH;have HF:Hid (QZ (vp*b-up*a) (uk*a-vk*b) w (.returned (.tuple #[g,l])) w5):=hid ⟨g,l,rfl,hg.below hB5,hl,HB1.out.trans (hH.2.2.2.2.mono HB1.out.size)⟩;clear hH hg hB4 hl hB5 KS KT E1 E2
 go_wp2
 go_ret2;exact HF.out
def Ev (a b:Nat) (w:World) (e:Ending) (w':World):Prop:=∃(g l:Value) (X Y:Nat),e = .returned (.tuple #[g,l])∧Nt w' g X∧Nt w' l Y∧Below w.heap.size w w'∧Y<X∧X≤b∧Nat.gcd X Y=Nat.gcd a b
theorem Ur (v u:Value) (a b h0 h1:Nat) (s:Bool) (hk hn up vp uk vk un vn:Nat) (x y z:Int) (w:World) (hv:Nt w v a) (hu:Nt w u b) (ha:km a) (hb:km b) (hL:Lh a b h0 h1 s hk hn up vp uk vk un vn x y z) (hvp:vp≠0) (h1':up<WB) (h2:vp<WB) (h3:uk<WB) (h4:vk<WB):
  Calls Tryz.prog 224 #[.agg #[.int .u64 up,.int .u64 vp,.int .u64 uk,.int .u64 vk,.bool s],v,u] w (Ev a b w):=by
 obtain⟨ex,y0,yx,xb,hg⟩:=hL.ex hvp;have ey:=hL.ey
 have main:∀X Y:Nat,(X:Int)=x→(Y:Int)=y→Y<X∧X≤b∧Nat.gcd X Y=Nat.gcd a b:=by
  intro X Y e1 e2;refine⟨by omega,by omega,?_⟩;rw[←hg,←e1,←e2];rfl
 cases s with
 | true=>
  have g1:qM true = -1:=rfl;rw[g1] at ex ey
  have c1:vp*b≤up*a:=by
   have:((vp*b:Nat):Int)≤((up*a:Nat):Int):=by push_cast;omega
   omega
  have c2:uk*a≤vk*b:=by
   have:((uk*a:Nat):Int)≤((vk*b:Nat):Int):=by push_cast;omega
   omega
  have m1:((up*a-vp*b:Nat):Int)=x:=by rw[Int.natCast_sub c1];push_cast;omega
  have m2:((vk*b-uk*a:Nat):Int)=y:=by rw[Int.natCast_sub c2];push_cast;omega
  obtain⟨r1,r2,r3⟩:=main _ _ m1 m2
  exact(Ez v u a b up vp uk vk w hv hu ha hb h1' h2 h3 h4 c1 c2).mono fun e w' ⟨g,l,he,n1,n2,n3⟩=>⟨g,l,_,_,he,n1,n2,n3,r1,r2,r3⟩
 | false=>
  have g1:qM false=1:=rfl;rw[g1] at ex ey
  have c1:up*a≤vp*b:=by
   have:((up*a:Nat):Int)≤((vp*b:Nat):Int):=by push_cast;omega
   omega
  have c2:vk*b≤uk*a:=by
   have:((vk*b:Nat):Int)≤((uk*a:Nat):Int):=by push_cast;omega
   omega
  have m1:((vp*b-up*a:Nat):Int)=x:=by rw[Int.natCast_sub c1];push_cast;omega
  have m2:((uk*a-vk*b:Nat):Int)=y:=by rw[Int.natCast_sub c2];push_cast;omega
  obtain⟨r1,r2,r3⟩:=main _ _ m1 m2
  exact(Ey v u a b up vp uk vk w hv hu ha hb h1' h2 h3 h4 c1 c2).mono fun e w' ⟨g,l,he,n1,n2,n3⟩=>⟨g,l,_,_,he,n1,n2,n3,r1,r2,r3⟩
def zB (G:Nat) (w:World) (e:Ending) (w':World):Prop:=∃g,e = .returned g∧Nt w' g G∧Below w.heap.size w w'
structure zO (x y a b gh:Nat):Prop where
 le:b≤a
 gh:a+b≤gh
 gcd:Nat.gcd a b=Nat.gcd x y
 big:km a
theorem Tz (v u:Value) (x y:Nat) (w:World) (h:Nt w v x) (h':Nt w u y) (hle:y≤x) (hf:km x):
  Calls Tryz.prog 172 #[v,u] w (zB (Nat.gcd x y) w):=by
 obtain⟨A,n,c,hv,_⟩:=h.size_;obtain⟨B,m,d,hu,_⟩:=h'.size_;have ho:=JB hle;have Hh:=hid h;clear h;have Hh':=hid h';clear h';have HI0:Hid (zO x y x y (x+y)):=hid ⟨hle,Nat.le_refl _,rfl,hf⟩;subst hv hu;clear hle hf;go_enter Tryz.func172,Tryz.ntmps172
 go_wp2_with fail
 refine(qW _ _ _ _ _ Hh.out Hh'.out).mono ?_;rintro e w' ⟨rfl,k,rfl⟩;have HA0:=hid (Hh.out.drewN k);have HB0:=hid (Hh'.out.drewN k);have HW0:Hid (Below w.heap.size w (w.drewN k)):=hid (below_drewN (Below.refl _ _) k)
 go_wp2_with fail
 clear ho
 go_loopg [0,1] (x+y) (fun gh v0 v1 wr=>∃a b:Nat,Hid (Nt wr v0 a)∧Hid (Nt wr v1 b)∧Hid (zO x y a b gh)∧Hid (Below w.heap.size w wr))
 case atStart=>exact⟨x,y,HA0,HB0,HI0,HW0⟩
 case round=>
  clear HA0 HB0 HI0 HW0 Hh Hh';obtain⟨a,b,hA,hB,hI,hW⟩:=hrel;by_cases hw:b<WB
  ·obtain⟨A1,n1,c1,hv1,_⟩:=hA.out.size_
   subst hv1;by_cases h0:b=0
   ·subst h0
    obtain⟨B1,d1,hu1⟩:=hB.out.zero_len;subst hu1;have HF:Hid (zB (Nat.gcd x y) w (.returned (.slice A1 n1 c1)) wr):=hid ⟨_,rfl,by rw[←hI.out.gcd,Nat.gcd_zero_right];exact hA.out,hW.out⟩;clear hA hB hI hW hw
    go_wp2
    go_ret;exact HF.out
   ·obtain⟨b1,off1,d1,hu1,hbl,hcell⟩:=hB.out.one_word (by omega) hw
    subst hu1;by_cases h1:b=1
    ·subst h1
     have HF:Hid (zB (Nat.gcd x y) w (.returned (.slice (some ⟨b1,off1,none⟩) 1 d1)) wr):=hid ⟨_,rfl,by rw[←hI.out.gcd,Nat.gcd_one_right];exact hB.out,hW.out⟩
     go_wp2_with fail
     refine(kS _ 1 _ hB.out).mono ?_;rintro e w1 ⟨rfl,rfl⟩;clear hA hB hI hW hw
     go_wp2
     go_ret;exact HF.out
    ·have hd:=hid (decide_eq_false h1)
     have DW:=hid (YC _ a b wr hA.out (by omega) hw hI.out.big.one);have HG:=hid hI.out.gcd;have hgw:Hid (Nat.gcd a b<WB):=hid (Nat.lt_of_le_of_lt (Nat.gcd_le_right a (by omega)) hw);clear hA hI hw h0 h1
     go_wp2_with fail
     refine(kS _ b _ hB.out).mono ?_;rintro e w1 ⟨rfl,rfl⟩;rw[hd.out];clear hB
     go_wp2_with fail
     refine DW.out.mono ?_;rintro e w1 ⟨q,rfl,hq,hB1⟩;have hcell1:w1.cell? ⟨b1,off1,none⟩=some (.int .u64 (b:Int)):=(hB1.cell (p:=⟨b1,off1,none⟩) hbl).trans hcell
     go_wp2_with fail
     refine(Qs b (a%b) _).mono ?_;rintro e w2 ⟨rfl,mm,rfl⟩
     have hg:Nat.gcd b (a%b)=Nat.gcd a b:=by rw[Nat.gcd_comm b,←Nat.gcd_rec,Nat.gcd_comm]
     rw[hg]
     go_wp2_with fail
     refine(Jy (Nat.gcd a b) _ hgw.out).mono ?_;rintro e w3 ⟨r,rfl,hr,hB2⟩;have HF:Hid (zB (Nat.gcd x y) w (.returned r) w3):=hid ⟨r,rfl,by rw[←HG.out];exact hr,hW.out.trans ((hB1.trans ((below_drewN (Below.refl _ w1) mm).trans hB2 |>.mono hB1.size)).mono hW.out.size)⟩;clear hr hB2 hB1 hq hcell1 hg
     go_wp2
     go_ret;exact HF.out
  ·obtain⟨A1,n1,c1,hv1,_⟩:=hA.out.size_
   obtain⟨B1,m1,d1,hu1,hm2,_⟩:=hB.out.len_ge (Nat.not_lt.1 hw);subst hv1 hu1
   have hmI:(1:Int)<(m1:Int):=by omega
   have SO:=hid (GD _ _ a b wr hA.out hB.out hI.out.le (by have:=hI.out.le;omega) hI.out.big)
   have hb0:0<b:=by unfold WB at hw;omega
   have Hb0:=hid hb0;clear hw hb0
   go_wp2_with fail
   refine SO.out.mono ?_;rintro e w1 ⟨s,hk,hn,up,vp,uk,vk,un,vn,h0,h1,xx,yy,zz,rfl,hL,b1,b2,b3,b4,hB1⟩;have HL:=hid hL;have H4:=hid (And.intro b1 (And.intro b2 (And.intro b3 b4)));have HOb:Hid (ja (w1.alloc (.cells #[.int .u64 up,.int .u64 vp,.int .u64 uk,.int .u64 vk,.bool s] 257)) w1.heap.size 257 [.int .u64 up,.int .u64 vp,.int .u64 uk,.int .u64 vk,.bool s]):=hid (ja.make w1 _ _);have HBa:Hid (Below wr.heap.size wr (w1.alloc (.cells #[.int .u64 up,.int .u64 vp,.int .u64 uk,.int .u64 vk,.bool s] 257))):=hid (hB1.alloc hB1.size _);clear SO hL b1 b2 b3 b4 hB1;have hgk:=hI.out.gh;have hle2:=hI.out.le;have hb0:=Hb0.out
   cases gk with
   | zero=>exact absurd hgk (by omega)
   | succ gh=>
    have Hsum:Hid (b≤a∧a+b≤gh+1):=hid ⟨hle2,hgk⟩;clear hgk hle2 hb0
    go_wp2_with fail
    refine(Vz up vp uk vk s _).mono ?_;rintro e w2 ⟨rfl,hB2⟩;have HBb:Hid (Below wr.heap.size wr w2):=hid (HBa.out.trans (hB2.mono HBa.out.size));have HO2:=hid (HOb.out.below hB2 HOb.out.lt);have HWb:Hid (Below w.heap.size w w2):=hid (hW.out.trans (HBb.out.mono hW.out.size));have HA2:=hid (hA.out.below HBb.out);have HB2:=hid (hB.out.below HBb.out);clear hB2 HOb HBa hA hB hW;by_cases hv0:vp=0
    ·rw[decide_eq_true hv0]
     have DB:=hid (U1 _ _ a b w2 HA2.out HB2.out Hb0.out hI.out.big);clear hv0
     go_wp2_with fail
     refine DB.out.mono ?_;rintro e w3 ⟨q,r,rfl,hq,hr,hB3⟩;have HR:=hid hr;have HB3:=hid (HB2.out.below hB3);have HW3:=hid (HWb.out.trans (hB3.mono HWb.out.size))
     have HI3:Hid (zO x y b (a%b) gh):=hid (by
      have hml:=Nat.mod_lt a Hb0.out;have hs:=Hsum.out
      exact⟨by omega,by omega,by rw[←hI.out.gcd,Nat.gcd_comm b,←Nat.gcd_rec,Nat.gcd_comm],km.le hI.out.big hs.1⟩)
     clear hq hr hB3 DB HL H4 HO2 hI
     go_wp2
     go_roundg gh
     case rel=>exact⟨b,a%b,HB3,HR,HI3,HW3⟩
     case measure=>omega
    ·rw[decide_eq_false hv0]
     have AP:=hid (Ur _ _ a b h0 h1 s hk hn up vp uk vk un vn xx yy zz w2 HA2.out HB2.out hI.out.big (km.le hI.out.big Hsum.out.1) HL.out hv0 H4.out.1 H4.out.2.1 H4.out.2.2.1 H4.out.2.2.2);have p0:=HO2.out.cell 0;have p1:=HO2.out.cell 1;have p2:=HO2.out.cell 2;have p3:=HO2.out.cell 3;have p4:=HO2.out.cell 4;simp only[List.getElem?_cons_zero,List.getElem?_cons_succ] at p0 p1 p2 p3 p4;clear hv0
     go_wp2_with fail
     refine AP.out.mono ?_;rintro e w3 ⟨g,l,X,Y,rfl,hg,hl,hB3,hYX,hXb,hgc⟩;have HG:=hid hg;have HLl:=hid hl;have HW3:=hid (HWb.out.trans (hB3.mono HWb.out.size))
     have HI3:Hid (zO x y X Y gh):=hid (by
      have hs:=Hsum.out
      exact⟨by omega,by omega,by rw[hgc];exact hI.out.gcd,km.le hI.out.big (by omega)⟩)
     clear hg hl hB3 hYX hXb hgc AP HL H4 HO2 hI p0 p1 p2 p3 p4
     go_wp2
     go_roundg gh
     case rel=>exact⟨X,Y,HG,HLl,HI3,HW3⟩
     case measure=>omega
theorem TC (v u:Value) (x y:Nat) (w:World) (h:Nt w v x) (h':Nt w u y) (hle:x<y) (hf:km y):
  Calls Tryz.prog 172 #[v,u] w (zB (Nat.gcd x y) w):=by
 obtain⟨A,n,c,hv,_⟩:=h.size_;obtain⟨B,m,d,hu,_⟩:=h'.size_;have ho:=hid (Jc hle);have Hh:=hid h;clear h;have Hh':=hid h';clear h';have HI0:Hid (zO x y y x (x+y)):=hid ⟨by omega,by omega,Nat.gcd_comm y x,hf⟩;subst hv hu;clear hle hf;go_enter Tryz.func172,Tryz.ntmps172
 go_wp2_with fail
 refine(qW _ _ _ _ _ Hh.out Hh'.out).mono ?_;rintro e w' ⟨rfl,k,rfl⟩;rw[ho.out];have HA0:=hid (Hh.out.drewN k);have HB0:=hid (Hh'.out.drewN k);have HW0:Hid (Below w.heap.size w (w.drewN k)):=hid (below_drewN (Below.refl _ _) k)
 go_wp2_with fail
 clear ho
 go_loopg [0,1] (x+y) (fun gh v0 v1 wr=>∃a b:Nat,Hid (Nt wr v0 a)∧Hid (Nt wr v1 b)∧Hid (zO x y a b gh)∧Hid (Below w.heap.size w wr))
 case atStart=>exact⟨y,x,HB0,HA0,HI0,HW0⟩
 case round=>
  clear HA0 HB0 HI0 HW0 Hh Hh';obtain⟨a,b,hA,hB,hI,hW⟩:=hrel;by_cases hw:b<WB
  ·obtain⟨A1,n1,c1,hv1,_⟩:=hA.out.size_
   subst hv1;by_cases h0:b=0
   ·subst h0
    obtain⟨B1,d1,hu1⟩:=hB.out.zero_len;subst hu1;have HF:Hid (zB (Nat.gcd x y) w (.returned (.slice A1 n1 c1)) wr):=hid ⟨_,rfl,by rw[←hI.out.gcd,Nat.gcd_zero_right];exact hA.out,hW.out⟩;clear hA hB hI hW hw
    go_wp2
    go_ret;exact HF.out
   ·obtain⟨b1,off1,d1,hu1,hbl,hcell⟩:=hB.out.one_word (by omega) hw
    subst hu1;by_cases h1:b=1
    ·subst h1
     have HF:Hid (zB (Nat.gcd x y) w (.returned (.slice (some ⟨b1,off1,none⟩) 1 d1)) wr):=hid ⟨_,rfl,by rw[←hI.out.gcd,Nat.gcd_one_right];exact hB.out,hW.out⟩
     go_wp2_with fail
     refine(kS _ 1 _ hB.out).mono ?_;rintro e w1 ⟨rfl,rfl⟩;clear hA hB hI hW hw
     go_wp2
     go_ret;exact HF.out
    ·have hd:=hid (decide_eq_false h1)
     have DW:=hid (YC _ a b wr hA.out (by omega) hw hI.out.big.one);have HG:=hid hI.out.gcd;have hgw:Hid (Nat.gcd a b<WB):=hid (Nat.lt_of_le_of_lt (Nat.gcd_le_right a (by omega)) hw);clear hA hI hw h0 h1
     go_wp2_with fail
     refine(kS _ b _ hB.out).mono ?_;rintro e w1 ⟨rfl,rfl⟩;rw[hd.out];clear hB
     go_wp2_with fail
     refine DW.out.mono ?_;rintro e w1 ⟨q,rfl,hq,hB1⟩;have hcell1:w1.cell? ⟨b1,off1,none⟩=some (.int .u64 (b:Int)):=(hB1.cell (p:=⟨b1,off1,none⟩) hbl).trans hcell
     go_wp2_with fail
     refine(Qs b (a%b) _).mono ?_;rintro e w2 ⟨rfl,mm,rfl⟩
     have hg:Nat.gcd b (a%b)=Nat.gcd a b:=by rw[Nat.gcd_comm b,←Nat.gcd_rec,Nat.gcd_comm]
     rw[hg]
     go_wp2_with fail
     refine(Jy (Nat.gcd a b) _ hgw.out).mono ?_;rintro e w3 ⟨r,rfl,hr,hB2⟩;have HF:Hid (zB (Nat.gcd x y) w (.returned r) w3):=hid ⟨r,rfl,by rw[←HG.out];exact hr,hW.out.trans ((hB1.trans ((below_drewN (Below.refl _ w1) mm).trans hB2 |>.mono hB1.size)).mono hW.out.size)⟩;clear hr hB2 hB1 hq hcell1 hg
     go_wp2
     go_ret;exact HF.out
  ·obtain⟨A1,n1,c1,hv1,_⟩:=hA.out.size_
   obtain⟨B1,m1,d1,hu1,hm2,_⟩:=hB.out.len_ge (Nat.not_lt.1 hw);subst hv1 hu1
   have hmI:(1:Int)<(m1:Int):=by omega
   have SO:=hid (GD _ _ a b wr hA.out hB.out hI.out.le (by have:=hI.out.le;omega) hI.out.big)
   have hb0:0<b:=by unfold WB at hw;omega
   have Hb0:=hid hb0;clear hw hb0
   go_wp2_with fail
   refine SO.out.mono ?_;rintro e w1 ⟨s,hk,hn,up,vp,uk,vk,un,vn,h0,h1,xx,yy,zz,rfl,hL,b1,b2,b3,b4,hB1⟩;have HL:=hid hL;have H4:=hid (And.intro b1 (And.intro b2 (And.intro b3 b4)));have HOb:Hid (ja (w1.alloc (.cells #[.int .u64 up,.int .u64 vp,.int .u64 uk,.int .u64 vk,.bool s] 257)) w1.heap.size 257 [.int .u64 up,.int .u64 vp,.int .u64 uk,.int .u64 vk,.bool s]):=hid (ja.make w1 _ _);have HBa:Hid (Below wr.heap.size wr (w1.alloc (.cells #[.int .u64 up,.int .u64 vp,.int .u64 uk,.int .u64 vk,.bool s] 257))):=hid (hB1.alloc hB1.size _);clear SO hL b1 b2 b3 b4 hB1;have hgk:=hI.out.gh;have hle2:=hI.out.le;have hb0:=Hb0.out
   cases gk with
   | zero=>exact absurd hgk (by omega)
   | succ gh=>
    have Hsum:Hid (b≤a∧a+b≤gh+1):=hid ⟨hle2,hgk⟩;clear hgk hle2 hb0
    go_wp2_with fail
    refine(Vz up vp uk vk s _).mono ?_;rintro e w2 ⟨rfl,hB2⟩;have HBb:Hid (Below wr.heap.size wr w2):=hid (HBa.out.trans (hB2.mono HBa.out.size));have HO2:=hid (HOb.out.below hB2 HOb.out.lt);have HWb:Hid (Below w.heap.size w w2):=hid (hW.out.trans (HBb.out.mono hW.out.size));have HA2:=hid (hA.out.below HBb.out);have HB2:=hid (hB.out.below HBb.out);clear hB2 HOb HBa hA hB hW;by_cases hv0:vp=0
    ·rw[decide_eq_true hv0]
     have DB:=hid (U1 _ _ a b w2 HA2.out HB2.out Hb0.out hI.out.big);clear hv0
     go_wp2_with fail
     refine DB.out.mono ?_;rintro e w3 ⟨q,r,rfl,hq,hr,hB3⟩;have HR:=hid hr;have HB3:=hid (HB2.out.below hB3);have HW3:=hid (HWb.out.trans (hB3.mono HWb.out.size))
     have HI3:Hid (zO x y b (a%b) gh):=hid (by
      have hml:=Nat.mod_lt a Hb0.out;have hs:=Hsum.out
      exact⟨by omega,by omega,by rw[←hI.out.gcd,Nat.gcd_comm b,←Nat.gcd_rec,Nat.gcd_comm],km.le hI.out.big hs.1⟩)
     clear hq hr hB3 DB HL H4 HO2 hI
     go_wp2
     go_roundg gh
     case rel=>exact⟨b,a%b,HB3,HR,HI3,HW3⟩
     case measure=>omega
    ·rw[decide_eq_false hv0]
     have AP:=hid (Ur _ _ a b h0 h1 s hk hn up vp uk vk un vn xx yy zz w2 HA2.out HB2.out hI.out.big (km.le hI.out.big Hsum.out.1) HL.out hv0 H4.out.1 H4.out.2.1 H4.out.2.2.1 H4.out.2.2.2);have p0:=HO2.out.cell 0;have p1:=HO2.out.cell 1;have p2:=HO2.out.cell 2;have p3:=HO2.out.cell 3;have p4:=HO2.out.cell 4;simp only[List.getElem?_cons_zero,List.getElem?_cons_succ] at p0 p1 p2 p3 p4;clear hv0
     go_wp2_with fail
     refine AP.out.mono ?_;rintro e w3 ⟨g,l,X,Y,rfl,hg,hl,hB3,hYX,hXb,hgc⟩;have HG:=hid hg;have HLl:=hid hl;have HW3:=hid (HWb.out.trans (hB3.mono HWb.out.size))
     have HI3:Hid (zO x y X Y gh):=hid (by
      have hs:=Hsum.out
      exact⟨by omega,by omega,by rw[hgc];exact hI.out.gcd,km.le hI.out.big (by omega)⟩)
     clear hg hl hB3 hYX hXb hgc AP HL H4 HO2 hI p0 p1 p2 p3 p4
     go_wp2
     go_roundg gh
     case rel=>exact⟨X,Y,HG,HLl,HI3,HW3⟩
     case measure=>omega
theorem Ty (v u:Value) (x y:Nat) (w:World) (h:Nt w v x) (h':Nt w u y) (hf:km x) (hg:km y):
  Calls Tryz.prog 172 #[v,u] w (zB (Nat.gcd x y) w):=by
 rcases Nat.lt_or_ge x y with hl | hl
 ·exact TC v u x y w h h' hl hg
 ·exact Tz v u x y w h h' hl hf
theorem UT:Ji where
 div:=fun hi lo y q r w h1 h2 h3 h4 h5=>YB hi lo y q r w h1 h2 h3 h4 h5
 long:=fun v u x y w h h' hy hyx hb=>VJ v u x y w h h' hy hyx hb
 gcd:=fun v u x y w h h' _ _ hx hy=>Ty v u x y w h h' hx hy
def Dg (w:World) (v:Value) (x:Nat):Prop:=∃ws,jb ws=x∧jG ws∧ki ws∧jE w v (jp ws)
theorem Dg.below {w w':World} {v:Value} {x:Nat} (h:Dg w v x) (hb:Below w.heap.size w w'):Dg w' v x:=by
 obtain⟨ws,h1,h2,h3,h4⟩:=h;exact⟨ws,h1,h2,h3,h4.below hb⟩
theorem Dg.open_ {w:World} {v:Value} {x:Nat} (h:Dg w v x):∃ws A c,v = .slice A ws.length c∧jb ws=x∧jG ws∧ki ws∧ws.length≤c∧ws.length≤140737488355328∧jE w (.slice A ws.length c) (jp ws):=by
 obtain⟨ws,h1,h2,h3,h4⟩:=h;obtain⟨A,c,rfl,h5,h6⟩:=h4.form;rw[j9] at *;exact⟨ws,A,c,rfl,h1,h2,h3,h5,h6,h4⟩
@[irreducible] def xo:Nat:=1000000
theorem YX:xo≤1000000:=by unfold xo;exact Nat.le_refl _
def jN (x:Nat):Prop:=x<B9^xo
theorem jN.le {x y:Nat} (h:jN x) (hy:y≤x):jN y:=Nat.lt_of_le_of_lt hy h
theorem jN.len {ws:List Nat} {x:Nat} (h:jN x) (hn:ki ws) (hv:jb ws=x):ws.length≤1000000:=Nat.le_trans (KE hn (by rw[hv];exact h)) YX
theorem Ri.dg {w:World} {v:Value} {x:Int} (h:Ri w v x):∃dv,v = .agg #[.bool (decide (x<0)),dv]∧Dg w dv x.natAbs:=by
 obtain⟨dv,ws,h1,h2,h3,h4,h5⟩:=h;exact⟨dv,h1,ws,h2,h3,h4,h5⟩
theorem DI {a b:List Nat} (ha:jG a) (hb:ki b) (h:a.length<b.length):kj (jb a) (jb b) = -1:=Jc (QL ha hb h)
theorem Wj {x y:Nat} (h:y<x):kj x y=1:=by unfold kj;rw[if_neg (by omega),if_pos h]
theorem DH (x:Nat):kj x x=0:=by unfold kj;rw[if_neg (by omega),if_neg (by omega)]
theorem ST {p q:List Nat} {k:Nat} (hp:k<p.length) (hq:k<q.length) (h:p.drop (k+1)=q.drop (k+1)) (he:p[k]?.getD 0=q[k]?.getD 0):p.drop k=q.drop k:=by
 rw[Js p k hp,Js q k hq,h,he]
theorem KG (v u:Value) (x y:Nat) (w:World) (hv:Dg w v x) (hu:Dg w u y):
  Calls Tryz.prog 185 #[v,u] w fun e w'=>e = .returned (.int .i64 (kj x y))∧Below w.heap.size w w':=by
 obtain⟨p,A,c,rfl,e1,o1,n1,l1,l2,s1⟩:=hv.open_;obtain⟨q,B,d,rfl,e2,o2,n2,m1,m2,s2⟩:=hu.open_
 obtain⟨r,hr⟩:∃r,kj x y=r:=⟨_,rfl⟩
 rw[hr];subst e1 e2;by_cases hl:p.length<q.length
 ·have HR:Hid (r = -1):=hid (by rw[←hr];exact DI o1 n2 hl)
  have hb:((p.length:Int) != (q.length:Int))=true:=by simpa using (by omega:¬(p.length:Int)=q.length)
  have hlI:(p.length:Int)<(q.length:Int):=by omega
  clear hv hu s1 s2 hr n1 n2 o1 o2;go_enter Tryz.func185,Tryz.ntmps185
  go_wp2
  go_ret;exact⟨by rw[HR.out];rfl,Below.refl _ _⟩
 by_cases hl2:q.length<p.length
 ·have HR:Hid (r=1):=hid (by rw[←hr];exact Wj (QL o2 n1 hl2))
  have hb:((p.length:Int) != (q.length:Int))=true:=by simpa using (by omega:¬(p.length:Int)=q.length)
  have hlI:¬(p.length:Int)<(q.length:Int):=by omega
  clear hv hu s1 s2 hr n1 n2 o1 o2;go_enter Tryz.func185,Tryz.ntmps185
  go_wp2
  go_ret;exact⟨by rw[HR.out];rfl,Below.refl _ _⟩
 have hle:p.length=q.length:=by omega
 have hb:((p.length:Int) != (q.length:Int))=false:=by rw[hle];simp
 have HL:=hid hle;have HR:=hid hr;have HO:=hid (And.intro o1 o2);have HS1:=hid s1;have HS2:=hid s2;clear hv hu s1 s2 hr n1 n2 o1 o2 hl hl2 hle;go_enter Tryz.func185,Tryz.ntmps185
 go_wp2_with fail
 go_loopg [5] p.length (fun g i wr=>i = .int .i64 ((g:Int)-1)∧g≤p.length∧Hid (p.drop g=q.drop g)∧Below w.heap.size w wr)
 case atStart=>exact⟨by go_num,Nat.le_refl _,hid (by rw[List.drop_length,HL.out,List.drop_length]),Below.refl _ _⟩
 case round=>
  obtain⟨rfl,hg,hD,hB⟩:=hrel
  cases gk with
  | zero=>
   have hin:¬((0:Int)≤((0:Nat):Int)-1):=by omega
   have HE:Hid (r=0):=hid (by rw[←HR.out,show p=q from hD.out,DH]);clear hD
   go_wp2
   go_ret;exact⟨by rw[HE.out];rfl,hB⟩
  | succ k=>
   have hlt:k<p.length:=by omega
   have hlq:k<q.length:=by have:=HL.out;omega
   obtain⟨b1,off1,rfl,hbb1,hcell1⟩:=HS1.out.at_ (k:=k) (by rw[j9];omega);obtain⟨b2,off2,rfl,hbb2,hcell2⟩:=HS2.out.at_ (k:=k) (by rw[j9];omega);have hck1:=(hB.cell (p:=⟨b1,off1+k,none⟩) hbb1).trans ((hcell1 k (by rw[j9];omega)).trans (qa p k hlt));have hck2:=(hB.cell (p:=⟨b2,off2+k,none⟩) hbb2).trans ((hcell2 k (by rw[j9];omega)).trans (qa q k hlq));have HST:=hid (fun he=>ST hlt hlq hD.out he);have HLT:Hid (p[k]?.getD 0<q[k]?.getD 0→r = -1):=hid (fun h=>by rw[←HR.out];exact Jc (UA HO.out.1 HL.out k hlt hD.out h));have HGT:Hid (q[k]?.getD 0<p[k]?.getD 0→r=1):=hid (fun h=>by rw[←HR.out];exact Wj (UA HO.out.2 HL.out.symm k hlq hD.out.symm h));clear hcell1 hcell2 hD;generalize p[k]?.getD 0=s at *;generalize q[k]?.getD 0=t at *;by_cases h1:s<t
   ·have h1I:(s:Int)<(t:Int):=by omega
    have HE:=hid (HLT.out h1);clear h1 HLT HGT HST
    go_wp2
    go_quiet (fail)
    have hB':=below_drewN hB nq
    go_wp2
    go_ret;exact⟨by rw[HE.out];rfl,hB'⟩
   ·by_cases h2:t<s
    ·have h1I:¬(s:Int)<(t:Int):=by omega
     have h2I:(t:Int)<(s:Int):=by omega
     have HE:=hid (HGT.out h2);clear h1 h2 HLT HGT HST
     go_wp2
     go_quiet (fail)
     have hB':=below_drewN hB nq
     go_wp2
     go_quiet (fail)
     have hB2:=below_drewN hB' nq
     go_wp2
     go_ret;exact⟨by rw[HE.out];rfl,hB2⟩
    ·have h1I:¬(s:Int)<(t:Int):=by omega
     have h2I:¬(t:Int)<(s:Int):=by omega
     have HE:=hid (HST.out (by omega));clear h1 h2 HLT HGT HST
     go_wp2
     go_quiet (fail)
     have hB':=below_drewN hB nq
     go_wp2
     go_quiet (fail)
     have hB2:=below_drewN hB' nq
     go_wp2
     go_roundg k
     case rel=>exact⟨by go_num,by omega,HE,below_drewN hB _⟩
     case measure=>omega
theorem zD (L:List Nat) (k x:Nat):(jp L).set k (.int .i64 (x:Int))=jp (L.set k x):=by simp[jp,List.map_set]
theorem Zb (n:Nat):jp (List.replicate n 0)=jc (List.replicate n 0):=by simp[jp,jc]
theorem Dg.of_trim {w:World} {A:Option Addr} {c:Nat} {ws:List Nat} (hok:jG ws) (h:jE w (.slice A (jF ws).length c) (jp (jF ws))):Dg w (.slice A (jF ws).length c) (jb ws):=
 ⟨jF ws,Yj ws,Uz hok,X0 ws,h⟩
theorem XP {w:World} {g:Nat} {L:List Nat} (n:Nat) (hn:n=L.length) (hO:ja w g 3 (jp L)) (hok:jG L) (hs:n≤140737488355328):
  Calls Tryz.prog 226 #[.slice (some ⟨g,0,none⟩) n n] w fun e w'=>∃v,e = .returned v∧Dg w v (jb L)∧w=w':=by
 subst hn;have h:=XQ (some ⟨g,0,none⟩) L.length L w (hO.sl _ (by rw[j9]) hs).wide
 exact h.mono fun e w' ⟨h1,h2,h3⟩=>⟨_,h1,Dg.of_trim hok h2,h3⟩
def Sv (x d:Nat) (w:World) (e:Ending) (w':World):Prop:=∃v,e = .returned (.tuple #[v,.int .i64 ((x%d:Nat):Int)])∧Dg w' v (x/d)∧Below w.heap.size w w'
theorem UX (v:Value) (x d:Nat) (w:World) (hv:Dg w v x) (hd0:0<d) (hd:d<1000000000) (hx:jN x):
  Calls Tryz.prog 225 #[v,.int .i64 d] w (Sv x d w):=by
 obtain⟨p,A,c,rfl,e1,o1,n1,l1,l2,s1⟩:=hv.open_
 have hdI:(0:Int)<(d:Int):=by omega
 have hdI2:(d:Int)<1000000000:=by omega
 have hl6:=hx.len n1 e1;have hmk:=Jx w p.length (by omega);clear hx;have HO0:Hid (ja (w.alloc (.cells (jc (List.replicate p.length 0)).toArray 3)) w.heap.size 3 (jp (List.replicate p.length 0))):=hid (by rw[Zb];exact ja.make _ _ _);have HB0:Hid (Below w.heap.size w (w.alloc (.cells (jc (List.replicate p.length 0)).toArray 3))):=hid ((Below.refl _ _).alloc (Nat.le_refl _) _);have HST:=hid (zn.start p d hd0);have HS:=hid s1;have HOK:=hid o1;have HE1:=hid e1;have HD0:=hid hd0;have HD:=hid hd;clear s1 o1 e1 hv n1 hd0 hd;go_enter Tryz.func225,Tryz.ntmps225
 go_wp2_with fail
 go_loopg [7,8,9] p.length (fun g r i _ wr=>∃(L:List Nat) (rr:Nat),i = .int .i64 ((g:Int)-1)∧r = .int .i64 (rr:Int)∧g≤p.length∧Hid (zn p L d g rr)∧Hid (ja wr w.heap.size 3 (jp L))∧Hid (Below w.heap.size w wr))
 case atStart=>exact⟨_,0,by go_num,rfl,Nat.le_refl _,HST,HO0,HB0⟩
 case round=>
  obtain⟨L,rr,rfl,rfl,hg,hI,hO,hB⟩:=hrel;clear HO0 HB0 HST hmk
  cases gk with
  | zero=>
   have hin:¬((0:Int)≤((0:Nat):Int)-1):=by omega
   have HV:=hid hI.out.last;have TR:=hid (XP p.length hI.out.1.symm hO.out hI.out.2.1 l2);rw[HV.out.1,HE1.out] at TR;have HR:Hid (rr=jb p%d):=hid HV.out.2;rw[HE1.out] at HR;clear hI HV
   go_wp2_with fail
   refine TR.out.mono ?_;rintro e w2 ⟨qv,rfl,hq,rfl⟩;have HQ:=hid hq;clear hq
   go_wp2
   go_ret2;exact⟨qv,by rw[HR.out];rfl,HQ.out,hB.out⟩
  | succ k=>
   have hlt:k<p.length:=by omega
   obtain⟨b1,off1,rfl,hbb1,hcell1⟩:=HS.out.at_ (k:=k) (by rw[j9];omega);have hck1:=(hB.out.cell (p:=⟨b1,off1+k,none⟩) hbb1).trans ((hcell1 k (by rw[j9];omega)).trans (qa p k hlt));have hL:L.length=p.length:=hI.out.1;have hrr:rr<d:=hI.out.2.2.1;have hx9:p[k]?.getD 0<1000000000:=kI HOK.out k;have HN:=hid (hI.out.step hlt HD0.out (SE hrr hx9));have hck2:=(hO.out.cell k).trans (qa L k (by omega));have hf2:=hO.out.free k;have hwl:=hO.out.lt;have hb1:b1<wr.heap.size:=Nat.lt_of_lt_of_le hbb1 hB.out.size;clear hcell1 hI;generalize p[k]?.getD 0=s at *;generalize L[k]?.getD 0=y at *
   have hrI:(rr:Int)<1000000000:=by have:=HD.out;omega
   have hsI:(s:Int)<1000000000:=by omega
   clear hrr hx9
   have Q1:((rr:Int)*1000000000+(s:Int))/(d:Int)=(((rr*B9+s)/d:Nat):Int):=by rw[Int.natCast_ediv,Int.natCast_add,Int.natCast_mul];rfl
   have Q2:((rr:Int)*1000000000+(s:Int))%(d:Int)=(((rr*B9+s)%d:Nat):Int):=by rw[Int.natCast_emod,Int.natCast_add,Int.natCast_mul];rfl
   generalize (rr*B9+s)/d=qd at *;generalize (rr*B9+s)%d=rd at *;have HO2:Hid (ja (wr.setCell ⟨w.heap.size,k,none⟩ (.int .i64 (qd:Int))) w.heap.size 3 (jp (L.set k qd))):=hid (by rw[←zD];exact hO.out.put _ _);have HB2:=hid (hB.out.setCell (p:=⟨w.heap.size,k,none⟩) (Nat.le_refl _) (.int .i64 (qd:Int)));have HQ1:=hid Q1;have HQ2:=hid Q2;clear Q1 Q2
   go_wp2
   rw[HQ1.out,HQ2.out]
   go_roundg k
   case rel=>exact⟨_,rd,by go_num,rfl,by omega,HN,HO2,HB2⟩
   case measure=>omega
