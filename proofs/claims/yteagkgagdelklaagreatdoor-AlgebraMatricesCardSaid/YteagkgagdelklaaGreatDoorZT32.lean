/- Contract: steps of Euclid's algorithm that the highest words tell. -/
import Derived.Test.YteagkgagdelklaaGreatDoorZT31
set_option maxRecDepth 100000
set_option maxHeartbeats 4000000
namespace Go.Proofs.YteagkgagdelklaaGreatDoor
open Go.RowKit Go.Lib
def Kk (x y:Nat):List Value:=[.int .u64 (x:Int),.int .u64 (y:Int)]
structure JV (w wr:World) (up vp uk vk un vn:Nat):Prop where
 o0:ja wr w.heap.size 189 [.int .u64 0,.int .u64 0,.int .u64 0,.int .u64 0,.bool false]
 o1:ja wr (w.heap.size+1) 187 (Kk up vp)
 o2:ja wr (w.heap.size+1+1) 187 (Kk uk vk)
 o3:ja wr (w.heap.size+1+1+1) 187 (Kk un vn)
 blw:Below w.heap.size w wr
theorem JV.start (w:World):JV w ((((w.alloc (.cells #[.int .u64 0,.int .u64 0,.int .u64 0,.int .u64 0,.bool false] 189)).alloc (.cells #[.int .u64 0,.int .u64 0] 187)).alloc (.cells #[.int .u64 1,.int .u64 0] 187)).alloc (.cells #[.int .u64 0,.int .u64 1] 187)) 0 0 1 0 0 1:=by
 have s1:(w.alloc (.cells #[.int .u64 0,.int .u64 0,.int .u64 0,.int .u64 0,.bool false] 189)).heap.size=w.heap.size+1:=by simp
 have s2:((w.alloc (.cells #[.int .u64 0,.int .u64 0,.int .u64 0,.int .u64 0,.bool false] 189)).alloc (.cells #[.int .u64 0,.int .u64 0] 187)).heap.size=w.heap.size+1+1:=by simp
 have s3:(((w.alloc (.cells #[.int .u64 0,.int .u64 0,.int .u64 0,.int .u64 0,.bool false] 189)).alloc (.cells #[.int .u64 0,.int .u64 0] 187)).alloc (.cells #[.int .u64 1,.int .u64 0] 187)).heap.size=w.heap.size+1+1+1:=by simp
 refine⟨(((ja.make w 189 _).alloc _).alloc _).alloc _,?_,?_,?_,?_⟩
 ·have h:=((ja.make (w.alloc (.cells #[.int .u64 0,.int .u64 0,.int .u64 0,.int .u64 0,.bool false] 189)) 187 (Kk 0 0)).alloc (.cells #[.int .u64 1,.int .u64 0] 187)).alloc (.cells #[.int .u64 0,.int .u64 1] 187)
  rw[s1] at h;exact h
 ·have h:=(ja.make ((w.alloc (.cells #[.int .u64 0,.int .u64 0,.int .u64 0,.int .u64 0,.bool false] 189)).alloc (.cells #[.int .u64 0,.int .u64 0] 187)) 187 (Kk 1 0)).alloc (.cells #[.int .u64 0,.int .u64 1] 187)
  rw[s2] at h;exact h
 ·have h:=ja.make (((w.alloc (.cells #[.int .u64 0,.int .u64 0,.int .u64 0,.int .u64 0,.bool false] 189)).alloc (.cells #[.int .u64 0,.int .u64 0] 187)).alloc (.cells #[.int .u64 1,.int .u64 0] 187)) 187 (Kk 0 1)
  rw[s3] at h;exact h
 ·exact((((Below.refl _ _).alloc (Nat.le_refl _) _).alloc (by omega) _).alloc (by omega) _).alloc (by omega) _
theorem JV.next {w wr:World} {up vp uk vk un vn:Nat} (h:JV w wr up vp uk vk un vn) (k a b c d e f:Nat):JV w (((((((wr.drewN k).setCell ⟨w.heap.size+1,0,none⟩ (.int .u64 (a:Int))).setCell ⟨w.heap.size+1,1,none⟩ (.int .u64 (b:Int))).setCell ⟨w.heap.size+1+1,0,none⟩ (.int .u64 (c:Int))).setCell ⟨w.heap.size+1+1,1,none⟩ (.int .u64 (d:Int))).setCell ⟨w.heap.size+1+1+1,0,none⟩ (.int .u64 (e:Int))).setCell ⟨w.heap.size+1+1+1,1,none⟩ (.int .u64 (f:Int))) a b c d e f:=by
 refine⟨?_,?_,?_,?_,?_⟩
 ·exact((((((h.o0.drewN k).other (p:=⟨w.heap.size+1,0,none⟩) (by simp) _).other (p:=⟨w.heap.size+1,1,none⟩) (by simp) _).other (p:=⟨w.heap.size+1+1,0,none⟩) (by simp <;> omega) _).other (p:=⟨w.heap.size+1+1,1,none⟩) (by simp <;> omega) _).other (p:=⟨w.heap.size+1+1+1,0,none⟩) (by simp <;> omega) _).other (p:=⟨w.heap.size+1+1+1,1,none⟩) (by simp <;> omega) _
 ·exact((((((h.o1.drewN k).put 0 _).put 1 _).other (p:=⟨w.heap.size+1+1,0,none⟩) (by simp) _).other (p:=⟨w.heap.size+1+1,1,none⟩) (by simp) _).other (p:=⟨w.heap.size+1+1+1,0,none⟩) (by simp <;> omega) _).other (p:=⟨w.heap.size+1+1+1,1,none⟩) (by simp <;> omega) _
 ·exact((((((h.o2.drewN k).other (p:=⟨w.heap.size+1,0,none⟩) (by simp) _).other (p:=⟨w.heap.size+1,1,none⟩) (by simp) _).put 0 _).put 1 _).other (p:=⟨w.heap.size+1+1+1,0,none⟩) (by simp) _).other (p:=⟨w.heap.size+1+1+1,1,none⟩) (by simp) _
 ·exact((((((h.o3.drewN k).other (p:=⟨w.heap.size+1,0,none⟩) (by simp <;> omega) _).other (p:=⟨w.heap.size+1,1,none⟩) (by simp <;> omega) _).other (p:=⟨w.heap.size+1+1,0,none⟩) (by simp) _).other (p:=⟨w.heap.size+1+1,1,none⟩) (by simp) _).put 0 _).put 1 _
 ·exact((((((below_drewN h.blw k).setCell (by simp <;> omega) _).setCell (by simp <;> omega) _).setCell (by simp <;> omega) _).setCell (by simp <;> omega) _).setCell (by simp <;> omega) _).setCell (by simp <;> omega) _
def O7 (a b:Nat) (w:World) (e:Ending) (w':World):Prop:=∃(s:Bool) (hk hn up vp uk vk un vn h0 h1:Nat) (x y z:Int),e = .returned (.agg #[.int .u64 up,.int .u64 vp,.int .u64 uk,.int .u64 vk,.bool s])∧Lh a b h0 h1 s hk hn up vp uk vk un vn x y z∧up<WB∧vp<WB∧uk<WB∧vk<WB∧Below w.heap.size w w'
def UE (a b c d e f:Nat):Prop:=a<WB∧b<WB∧c<WB∧d<WB∧e<WB∧f<WB
theorem Ei (v u:Value) (a b:Nat) (w:World) (hv:Nt w v a) (hu:Nt w u b) (hba:b≤a) (haw:WB≤a) (ha:kr a):
  Calls Tryz.prog 126 #[v,u] w (O7 a b w):=by
 have HW:=hid (fun (W:World) (hB:Below w.heap.size w W)=>Am v u a b W (hv.below hB) (hu.below hB) hba haw ha);obtain⟨A,n,c,rfl,_⟩:=hv.size_;obtain⟨B,m,d,rfl,_⟩:=hu.size_;clear hv hu hba haw ha;go_enter Tryz.func126,Tryz.ntmps126
 go_wp2_with fail
 refine(HW.out _ ((Below.refl _ _).alloc (Nat.le_refl _) _)).mono ?_;rintro e w1 ⟨h0,h1,P,ra,rb,rfl,ea,eb,hra,hrb,hle,hlt,rfl⟩;have HE:=hid (And.intro ea (And.intro eb (And.intro hra (And.intro hrb (And.intro hle hlt)))));clear ea eb hra hrb hle hlt HW;have HS0:=hid (JV.start w);have HL0:Hid (Lh a b h0 h1 false h0 h1 0 0 1 0 0 1 0 a b):=hid (Lh.start HE.out.2.2.2.2.1)
 go_wp2_with fail
 go_loopg [5,6,10] h1 (fun gh v5 v6 v10 wr=>∃(s:Bool) (hk hn up vp uk vk un vn:Nat) (x y z:Int),v5 = .int .u64 hk∧v6 = .int .u64 hn∧v10 = .bool s∧hn≤gh∧Hid (Lh a b h0 h1 s hk hn up vp uk vk un vn x y z)∧Hid (UE up vp uk vk un vn)∧Hid (hk<WB)∧Hid (JV w wr up vp uk vk un vn))
 case atStart=>exact⟨false,h0,h1,0,0,1,0,0,1,0,a,b,rfl,rfl,rfl,Nat.le_refl _,HL0,hid (by unfold UE WB;omega),hid HE.out.2.2.2.2.2,HS0⟩
 case round=>
  clear HS0 HL0;obtain⟨s,hk,hn,up,vp,uk,vk,un,vn,x,y,z,rfl,rfl,rfl,hgh,hL,h6,hkw,hM⟩:=hrel;have p10:=hM.out.o1.cell 0;have p11:=hM.out.o1.cell 1;have p20:=hM.out.o2.cell 0;have p21:=hM.out.o2.cell 1;have p30:=hM.out.o3.cell 0;have p31:=hM.out.o3.cell 1;have q10:=hM.out.o1.free 0;have q11:=hM.out.o1.free 1;have q20:=hM.out.o2.free 0;have q21:=hM.out.o2.free 1;have q30:=hM.out.o3.free 0;have q31:=hM.out.o3.free 1;have p00:=hM.out.o0.cell 0;have p01:=hM.out.o0.cell 1;have p02:=hM.out.o0.cell 2;have p03:=hM.out.o0.cell 3;have p04:=hM.out.o0.cell 4;have q00:=hM.out.o0.free 0;have q01:=hM.out.o0.free 1;have q02:=hM.out.o0.free 2;have q03:=hM.out.o0.free 3;have q04:=hM.out.o0.free 4;have sz:=hM.out.o3.lt;simp only[Kk,Qbv,QbV] at p00 p01 p02 p03 p04 p10 p11 p20 p21 p30 p31;by_cases t1:vn≤hn
  ·have t1I:(vn:Int)≤(hn:Int):=by omega
   by_cases t2:vk+vn≤hk-hn
   ·have hle:=hL.out.hle
    have hv1:=hL.out.vpos
    have hn0:1≤hn:=by omega
    obtain⟨s1,s2⟩:=hL.out.small hn0;have hlt0:=HE.out.2.2.2.2.2;have hkw':=hkw.out
    obtain⟨q,hq⟩:∃q,q=hk/hn:=⟨_,rfl⟩
    have HL2:=hid (hL.out.step (hL.out.sure HE.out.1 HE.out.2.1 HE.out.2.2.1 HE.out.2.2.2.1 t1 t2) hq hn0);rw[←hq] at s2;have hun:q*un≤q*vn:=Qan _ hL.out.le1;have hu2:=HL2.out.le1
    have w1:IntKind.u64.wrap ((hk:Int)-(hn:Int))=((hk-hn:Nat):Int):=by
     rw[show (hk:Int)-(hn:Int)=((hk-hn:Nat):Int) by omega];exact wrap_u64 _ (by omega)
    have w2:IntKind.u64.wrap ((vk:Int)+(vn:Int))=((vk+vn:Nat):Int):=by rw[←QaG];exact wrap_u64 _ (by omega)
    have w3:(hk:Int)/(hn:Int)=(q:Int):=by rw[hq,Qbn]
    have w4:(hk:Int)%(hn:Int)=((hk%hn:Nat):Int):=by rw[Qce]
    have w5:IntKind.u64.wrap ((q:Int)*(un:Int))=((q*un:Nat):Int):=by rw[←QaM];exact wrap_u64 _ (by omega)
    have w6:IntKind.u64.wrap ((q:Int)*(vn:Int))=((q*vn:Nat):Int):=by rw[←QaM];exact wrap_u64 _ (by omega)
    have w7:IntKind.u64.wrap ((uk:Int)+((q*un:Nat):Int))=((uk+q*un:Nat):Int):=by rw[←QaG];exact wrap_u64 _ (by omega)
    have w8:IntKind.u64.wrap ((vk:Int)+((q*vn:Nat):Int))=((vk+q*vn:Nat):Int):=by rw[←QaG];exact wrap_u64 _ (by omega)
    have w9:IntKind.u64.wrap (q:Int)=(q:Int):=wrap_u64 _ (by rw[hq];exact Qax (QaW _ _) hkw')
    have t2I:((vk+vn:Nat):Int)≤((hk-hn:Nat):Int):=by omega
    have hnz:((hn:Int)==0)=false:=by simpa using (by omega:¬(hn:Int)=0)
    have hnz2:¬(hn:Int)=0:=by omega
    have H62:Hid (UE uk vk un vn (uk+q*un) (vk+q*vn)):=hid ⟨h6.out.2.2.1,h6.out.2.2.2.1,h6.out.2.2.2.2.1,h6.out.2.2.2.2.2,by omega,by omega⟩;have Hnw:Hid (hn<WB):=hid (by omega);have hmod:=QaI hk hn0;generalize uk+q*un=un2 at *;generalize vk+q*vn=vn2 at *;generalize q*un=m1 at *;generalize q*vn=m2 at *;generalize hk%hn=hr at *;generalize vk+vn=m3 at *;generalize hk-hn=m4 at *;have Hq:=hid (And.intro hq (And.intro t1 (And.intro t2 (And.intro s1 s2))));have Hg:Hid (hr≤gk-1∧1≤gk):=hid ⟨by omega,by omega⟩;clear hq t1 t2 s1 s2 hun hu2 hmod hv1 hkw' hlt0
    go_wp2
    go_quiet (fail)
    go_upto_region 7 with fail
    go_region
    go_wp2
    cases gk with
    | zero=>exact absurd Hg.out.2 (by omega)
    | succ gh=>
     go_roundg gh
     case rel=>exact⟨!s,hn,hr,uk,vk,un,vn,un2,vn2,y,z,_,rfl,by rw[w4],rfl,Hg.out.1,HL2,H62,Hnw,hid (hM.out.next _ uk vk un vn un2 vn2)⟩
     case measure=>omega
   ·have hle:=hL.out.hle
    have hv1:=hL.out.vpos;obtain⟨s1,s2⟩:=hL.out.small (by omega);have hlt0:=HE.out.2.2.2.2.2;have hkw':=hkw.out
    have w1:IntKind.u64.wrap ((hk:Int)-(hn:Int))=((hk-hn:Nat):Int):=by
     rw[show (hk:Int)-(hn:Int)=((hk-hn:Nat):Int) by omega];exact wrap_u64 _ (by omega)
    have w2:IntKind.u64.wrap ((vk:Int)+(vn:Int))=((vk+vn:Nat):Int):=by rw[←QaG];exact wrap_u64 _ (by omega)
    have t2I:¬((vk+vn:Nat):Int)≤((hk-hn:Nat):Int):=by omega
    clear s1 s2 hlt0 hkw' t1 t2 hle hv1;generalize vk+vn=m3 at *;generalize hk-hn=m4 at *
    go_wp2
    exact bodyPost_ret (v:= .agg #[.int .u64 up,.int .u64 vp,.int .u64 uk,.int .u64 vk,.bool s]) (by simp[results,Tryz.results126,go_sem,p00,p01,p02,p03,p04]) rfl ⟨s,hk,hn,up,vp,uk,vk,un,vn,h0,h1,x,y,z,rfl,hL.out,h6.out.1,h6.out.2.1,h6.out.2.2.1,h6.out.2.2.2.1,((((hM.out.blw.setCell (by simp) _).setCell (by simp) _).setCell (by simp) _).setCell (by simp) _).setCell (by simp) _⟩
  ·have t1I:¬(vn:Int)≤(hn:Int):=by omega
   clear t1
   go_wp2
   exact bodyPost_ret (v:= .agg #[.int .u64 up,.int .u64 vp,.int .u64 uk,.int .u64 vk,.bool s]) (by simp[results,Tryz.results126,go_sem,p00,p01,p02,p03,p04]) rfl ⟨s,hk,hn,up,vp,uk,vk,un,vn,h0,h1,x,y,z,rfl,hL.out,h6.out.1,h6.out.2.1,h6.out.2.2.1,h6.out.2.2.2.1,((((hM.out.blw.setCell (by simp) _).setCell (by simp) _).setCell (by simp) _).setCell (by simp) _).setCell (by simp) _⟩
