/- The calls of the self-check, one by one. -/
import Derived.Test.YtneafcdfnhnpnaaGreatDoorZD46
namespace Go.Proofs.YtneafcdfnhnpnaaGreatDoor
open Go.RowKit Go.Lib
theorem ja.slW {w:World} {g:Nat} {t:TypeId} {cs:List Value} (h:ja w g t cs) (n:Nat) (hn:cs.length=n) (hs:n≤140737488355328):jB w (.slice (some ⟨g,0,none⟩) n n) cs:=(h.sl n hn hs).wide
theorem kd.two {w:World} {v v0 v1:Value} {r0 r1:List jn} (h:jB w v [v0,v1]) (h0:jB w v0 (jO r0)) (h1:jB w v1 (jO r1)):kd w v [r0,r1]:=
 ⟨_,h,rfl,fun i r hr=>by
  rcases i with _ | _ | i
  ·cases hr;exact⟨_,rfl,h0⟩
  ·cases hr;exact⟨_,rfl,h1⟩
  ·cases hr⟩
theorem kd.one {w:World} {v v0:Value} {r0:List jn} (h:jB w v [v0]) (h0:jB w v0 (jO r0)):kd w v [r0]:=
 ⟨_,h,rfl,fun i r hr=>by
  rcases i with _ | i
  ·cases hr;exact⟨_,rfl,h0⟩
  ·cases hr⟩
theorem qH.one {w:World} {v v0:Value} {r0:List Int} (h:jB w v [v0]) (h0:jB w v0 (je r0)):qH w v [r0]:=
 ⟨_,h,rfl,fun i r hr=>by
  rcases i with _ | i
  ·cases hr;exact⟨_,rfl,h0⟩
  ·cases hr⟩
theorem yW.two {w:World} {v v0 v1:Value} {r0 r1:List Int} (h:Sl w 1 v [v0,v1]) (h0:Sl w 1 v0 (je r0)) (h1:Sl w 1 v1 (je r1)):yW w v [r0,r1]:=
 ⟨_,h,rfl,fun i r hr=>by
  rcases i with _ | _ | i
  ·cases hr;exact⟨_,rfl,h0⟩
  ·cases hr;exact⟨_,rfl,h1⟩
  ·cases hr⟩
theorem TI.wide {w:World} {base:Nat} {v:Value} {M:List (List Int)} (h:TI w base v M) (hl:M.length≤1000000) (hr:∀r∈M,r.length≤1000000):qH w v M:=by
 obtain⟨vs,h1,h2,h3⟩:=h
 have h1':w.ownsRow base 50 1 v vs.length vs:=by rw[h2];exact h1
 have h4:=zE h1' (by omega);refine⟨vs,h4,h2,fun i r hi=> ?_⟩;obtain⟨u,bx,hu,_,ho⟩:=h3 i r hi;have:=hr r (List.mem_of_getElem? hi);exact⟨u,hu,zE ho (by omega)⟩
theorem E4 (w:World) (hG:jN w):Calls Tryz.prog 34 #[.int .i64 6,.int .i64 (-4)] w fun e w'=>e = .returned (.tuple #[.string ⟨#[45,51,47,50]⟩,.int .i64 0])∧Below w.heap.size w w':=
 (Eb 6 (-4) w (by omega) (by omega) hG).mono fun e w' h=>by
  obtain⟨h1,h2⟩:=h;rw[if_neg (by decide)] at h1
  have e1:¬kR (((6:Int):Rat)/(((-4):Int):Rat)):=by decide +kernel
  have e2:jg (((6:Int):Rat)/(((-4):Int):Rat))=[45,51,47,50]:=by decide +kernel
  rw[Je e1,e2] at h1;exact⟨h1,h2⟩
theorem EX (w:World):Calls Tryz.prog 36 #[.int .i64 12,.int .i64 (-18)] w fun e w'=>e = .returned (.tuple #[.int .i64 6,.int .i64 0])∧Below w.heap.size w w':=
 (MX 12 (-18) w).mono fun e w' h=>by
  obtain⟨h1,h2⟩:=h;rw[if_neg (by unfold far;omega)] at h1;exact⟨h1,h2⟩
theorem EY (w:World):Calls Tryz.prog 39 #[.int .i64 3,.int .i64 10] w fun e w'=>e = .returned (.tuple #[.int .i64 7,.int .i64 0])∧Below w.heap.size w w':=
 (MZ 3 10 w).mono fun e w' h=>by
  obtain⟨h1,h2⟩:=h;rw[if_neg (by unfold far;omega),if_pos (by decide)] at h1;obtain⟨x,h3,h4,h5,h6⟩:=h1
  have:x=7:=by omega
  subst this;exact⟨h3,h2⟩
def pA:List Int:=[1,2,0,4,3]
theorem EV (v:Value) (w:World) (hv:Sl w 1 v (je pA)):Calls Tryz.prog 49 #[v] w fun e w'=>(∃u,e = .returned (.tuple #[u,.int .i64 0])∧qH w' u [[0,1,2],[3,4]])∧Below w.heap.size w w':=
 (MS v pA w hv).mono fun e w' h=>by
  have hp:kh pA=0:=by decide +kernel
  have hc:qI pA=[[0,1,2],[3,4]]:=by decide +kernel
  obtain⟨h1,h2 | h2⟩:=h
  ·obtain⟨_,u,base,rfl,hb,ht⟩:=h2
   rw[hc] at ht;exact⟨⟨u,rfl,ht.wide (by decide) (by decide)⟩,h1⟩
  ·exact absurd hp h2.1
theorem E9 (v:Value) (w:World) (hv:Sl w 1 v (je pA)):Calls Tryz.prog 50 #[v] w fun e w'=>e = .returned (.tuple #[.int .i64 (-1),.int .i64 0])∧Below w.heap.size w w':=
 (Eh v pA w hv).mono fun e w' h=>by
  have hp:kh pA=0:=by decide +kernel
  have hc:yi (qI pA) = -1:=by decide +kernel
  obtain⟨h1,h2⟩:=h;rw[if_pos hp,hp,hc] at h1;exact⟨h1,h2⟩
theorem E5 (v:Value) (w:World) (hv:Sl w 1 v (je pA)):Calls Tryz.prog 48 #[v,.int .i64 2] w fun e w'=>(∃u,e = .returned (.tuple #[u,.int .i64 0])∧jB w' u (je [2,0,1,3,4]))∧Below w.heap.size w w':=
 (Ed v pA 2 w hv).mono fun e w' h=>by
  have hp:kh pA=0:=by decide +kernel
  have hc:Ww pA 2=[2,0,1,3,4]:=by decide +kernel
  obtain⟨h1,h2⟩:=h;rw[if_pos hp,hc] at h1;obtain⟨u,h3,h4⟩:=h1;exact⟨⟨u,h3,h4.wide⟩,h2⟩
theorem E6 (v:Value) (w:World) (hv:Sl w 1 v (je [2,0,1])) (hG:jN w):Calls Tryz.prog 58 #[v] w fun e w'=>e = .returned (.tuple #[.string ⟨#[52]⟩,.int .i64 0])∧Below w.heap.size w w':=
 (Ee v [2,0,1] w hv hG (.inl (by decide))).mono fun e w' h=>by
  have hp:kh [2,0,1]=0:=by decide +kernel
  obtain⟨h1,h2⟩:=h;rw[if_pos hp] at h1
  have e1:¬kR (j4 false (xj [2,0,1] [(2:Int),0,1].length) 1):=by decide +kernel
  have e2:jg (j4 false (xj [2,0,1] [(2:Int),0,1].length) 1)=[52]:=by decide +kernel
  rw[Je e1,e2] at h1;exact⟨h1,h2⟩
theorem Rb (w:World) (hG:jN w):Calls Tryz.prog 59 #[.int .i64 4,.string ⟨#[50,51]⟩] w fun e w'=>(∃u,e = .returned (.tuple #[u,.int .i64 0])∧jB w' u (je [3,2,1,0]))∧Below w.heap.size w w':=
 (Ek 4 [50,51] w (by decide) hG (.inl (by decide)) (.small (by decide +kernel))).mono fun e w' h=>by
  have hp:xD 4 [50,51]=0:=by decide +kernel
  have hc:(kO (xe (jY [50,51]).2.num.natAbs (4:Int).toNat (4:Int).toNat) (4:Int).toNat).1=[3,2,1,0]:=by decide +kernel
  obtain⟨h1,h2 | h2⟩:=h
  ·obtain⟨_,g,rfl,hg,ho⟩:=h2
   rw[hc] at ho;exact⟨⟨_,rfl,ho.slW 4 rfl (by decide)⟩,h1⟩
  ·exact absurd hp h2.1
theorem XJ (M:List (List jn)) (h:M.all (fun r=>r.all fun l=>decide (l.length≤19))=true):∀r∈M,∀l∈r,xq l:=fun r hr l hl=>by
 have:=of_decide_eq_true (List.all_eq_true.1 (List.all_eq_true.1 h r hr) l hl);exact⟨by omega,.inl this⟩
theorem ZO (L:List jn) (h:L.all (fun l=>decide (l.length≤19))=true):∀l∈L,xq l:=fun l hl=>by
 have:=of_decide_eq_true (List.all_eq_true.1 h l hl);exact⟨by omega,.inl this⟩
theorem E0 (v:Value) (w:World) (hv:kd w v zt) (hG:jN w):Calls Tryz.prog 69 #[v] w fun e w'=>(∃u,e = .returned (.tuple #[u,.int .i64 0])∧kd w' u [[[49],[45,49,47,50],[48]]])∧Below w.heap.size w w':=
 (M7 v zt w hv (XJ _ (by decide)) hG (fun _=>by rw[QF];exact Dm Es)).mono fun e w' h=>by
  obtain⟨h1,h2 | h2⟩:=h
  ·obtain⟨_,h3⟩:=h2
   rw[QF,show jA zt=3 from rfl,Et] at h3;rcases h3 with h3 | h3
   ·obtain⟨_,g,B,rfl,hg,hT⟩:=h3
    have hv:=hT.vals
    have e2:([[(1:Rat),-1/2,0]].take [[(1:Rat),-1/2,0]].length).map (·.map jg)=[[[49],[45,49,47,50],[48]]]:=by decide +kernel
    rw[e2] at hv
    rcases B with _ | ⟨⟨b0,r0⟩,_ | ⟨r1,B⟩⟩
    ·simp at hv
    ·have hr0:r0=[[49],[45,49,47,50],[48]]:=by simpa using hv
     subst hr0;have ho:=hT.own;have hr:=(hT.rows (b0,_) (List.mem_singleton.2 rfl)).2.1;exact⟨⟨_,rfl,kd.one (ja.slW (cs:=[_]) ho 1 rfl (by decide)) (hr.slW 3 rfl (by decide))⟩,h1⟩
    ·simp at hv
   ·exact absurd Eu h3.1
  ·exact absurd Ev h2.1
theorem Ra (v u:Value) (w:World) (hv:kd w v zt) (hu:jB w u (jO QC)) (hG:jN w):Calls Tryz.prog 76 #[v,u] w fun e w'=>(∃u,e = .returned (.tuple #[u,.int .i64 0])∧jB w' u (jO [[49],[48],[49]]))∧Below w.heap.size w w':=
 (Ei v u zt QC w hv hu (XJ _ (by decide)) (ZO _ (by decide)) hG (fun _=>by rw[QF,Uh];exact FN EA)).mono fun e w' h=>by
  obtain⟨h1,h2 | h2⟩:=h
  ·obtain⟨_,_,_,h3⟩:=h2
   rw[QF,Uh,show jA zt=3 from rfl,EB] at h3;rcases h3 with h3 | h3
   ·exact absurd h3.1 EC
   ·rcases h3.2 with ⟨_,g,rfl,hg,ho⟩ | ⟨⟨q,hq,hl⟩,_⟩
    ·have e2:[(1:Rat),0,1].map jg=[[49],[48],[49]]:=by decide +kernel
     rw[e2] at ho;exact⟨⟨_,rfl,ho.slW 3 rfl (by decide)⟩,h1⟩
    ·exfalso
     simp only[List.mem_cons,List.not_mem_nil,or_false] at hq
     have a1:¬kR 1:=by decide +kernel
     have a0:¬kR 0:=by decide +kernel
     rcases hq with rfl | rfl | rfl
     ·exact a1 hl
     ·exact a0 hl
     ·exact a1 hl
  ·exact absurd Ew h2.1
theorem EW (v:Value) (w:World) (hv:kd w v Kx) (hG:jN w):Calls Tryz.prog 83 #[v] w fun e w'=>e = .returned (.tuple #[.string ⟨#[45,50]⟩,.int .i64 0])∧Below w.heap.size w w':=
 (Qy v Kx w hv (XJ _ (by decide)) hG (fun _ _=>by rw[Ui];exact SF En)).mono fun e w' h=>by
  obtain⟨h1,h2 | h2 | h2⟩:=h
  ·have h3:=h2.2.2
   have e1:¬kR (-2):=by decide +kernel
   have e2:jg (-2)=[45,50]:=by decide +kernel
   rw[Ui,show jA Kx=2 from rfl,Eo,Je e1,e2] at h3;exact⟨h3,h1⟩
  ·exact absurd rfl h2.2.1
  ·exact absurd Ex h2.1
theorem E8 (v u t:Value) (w:World) (hv:kd w v QE) (hu:jB w u (jO QD)) (ht:jB w t (jO QG)) (hG:jN w):Calls Tryz.prog 78 #[v,u,t] w fun e w'=>e = .returned (.int .i64 0)∧Below w.heap.size w w':=
 (MQ v u t QE QD QG w hv hu ht (XJ _ (by decide)) (ZO _ (by decide)) (ZO _ (by decide)) hG (fun _ _=>by rw[Uj,Uk,Ul];exact Cw Ep)).mono fun e w' h=>by
  obtain⟨h1,h2 | h2 | h2⟩:=h
  ·obtain⟨_,_,h3 | h3⟩:=h2
   ·exact⟨h3.2,h1⟩
   ·refine absurd ?_ h3.1
    rw[Uj,Uk,Ul];exact Er
  ·exact absurd Ez h2.2.1
  ·exact absurd Ey h2.1
noncomputable def VG (p:Int) (n:Nat) (V:List (List Int)):List (List Int):=nsBasis (jC p) 0 1 n (ko (jC p) n (V.map List.reverse)) n
theorem Dn {p:Int} {n:Nat} {R:List jR} {V:List (List Int)} (h:R.map (·.2.2)=V):
  nsBasis (jC p) 0 1 n (jH (jC p) n R.length 0 ⟨kj List.reverse R R.length,[],[],false⟩) n=VG p n V:=by
 have hv2:ju (kj List.reverse R R.length)=V.map List.reverse:=by rw[VV];rw[show ju R=V from h]
 have:=J2 (F:=jC p) hv2 n;rw[KZ] at this;exact this.nsBasis 0 1 n n
theorem EZ (v:Value) (w:World) (hv:yW w v [[1,2],[3,4]]):Calls Tryz.prog 87 #[v,.int .i64 2] w fun e w'=>(∃u,e = .returned (.tuple #[u,.int .i64 0])∧qH w' u [[0,1]])∧Below w.heap.size w w':=
 (M6 v [[1,2],[3,4]] 2 w hv).mono fun e w' h=>by
  have a1:kN [[1,2],[3,4]]=0:=by decide +kernel
  have a2:yt 2:=⟨by omega,fun d h1 h2=>by omega⟩
  have a3:VG 2 2 [[1,0],[1,0]]=[[0,1]]:=by decide +kernel
  have a4:J8 2 [[1,2],[3,4]]=[[1,0],[1,0]]:=by decide +kernel
  obtain⟨h1,h2 | h2 | h2⟩:=h
  ·obtain⟨_,_,_,R,u,B,rfl,hR,hT,hBl,hB⟩:=h2
   rw[a4] at hR;rw[show ((([[1,2],[3,4]]:List (List Int))[0]?.map (·.length)).getD 0)=2 from rfl,Dn hR,a3] at hB;have:=hT.tblW (by omega);rw[hB] at this;exact⟨⟨_,rfl,this⟩,h1⟩
  ·exact absurd ⟨a2,by omega⟩ h2.2.1
  ·exact absurd a1 h2.1
theorem bA {w W:World} (h:Below w.heap.size w W) (o:Obj):Below w.heap.size w (W.alloc o):=h.alloc h.size o
theorem bT {w W W':World} (h:Below w.heap.size w W) (k:Below W.heap.size W W'):Below w.heap.size w W':=h.trans (k.mono h.size)
theorem Ur (L:List Int) (v u:Value) (w:World) (hv:jB w v (je L)) (hu:jB w u (je L)):Calls Tryz.prog 93 #[v,u] w fun e w'=>e = .returned (.bool true)∧Below w.heap.size w w':=
 (Gb v u L L w hv hu).mono fun e w' h=>⟨by rw[h.1];simp,h.2⟩
theorem Ut (L:List (List Int)) (v u:Value) (w:World) (hv:qH w v L) (hu:qH w u L):Calls Tryz.prog 54 #[v,u] w fun e w'=>e = .returned (.bool true)∧Below w.heap.size w w':=
 (CQ v u L L w hv hu).mono fun e w' h=>⟨by rw[h.1];simp,h.2⟩
theorem Rf (L:List jn) (v u:Value) (w:World) (hv:jB w v (jO L)) (hu:jB w u (jO L)):Calls Tryz.prog 101 #[v,u] w fun e w'=>e = .returned (.bool true)∧Below w.heap.size w w':=
 (Gc v u L L w hv hu).mono fun e w' h=>⟨by rw[h.1];simp,h.2⟩
theorem Re (L:List (List jn)) (v u:Value) (w:World) (hv:kd w v L) (hu:kd w u L):Calls Tryz.prog 99 #[v,u] w fun e w'=>e = .returned (.bool true)∧Below w.heap.size w w':=
 (CO v u L L w hv hu).mono fun e w' h=>⟨by rw[h.1];simp,h.2⟩
theorem Rc (w:World):Calls Tryz.prog 32 #[.string ⟨#[108,111,95,115,104,117]⟩] w fun e w'=>e = .returned (.bool true)∧Below w.heap.size w w':=
 (Z6 ⟨#[108,111,95,115,104,117]⟩ w (by decide)).mono fun e w' h=>by
  obtain⟨b,rfl,hb,hB⟩:=h;refine⟨?_,hB⟩;rw[hb.2 ⟨by decide,fun i hi c hc=> ?_⟩];rcases i with _ | _ | _ | _ | _ | _ | i
  ·cases hc;decide
  ·cases hc;decide
  ·cases hc;decide
  ·cases hc;decide
  ·cases hc;decide
  ·cases hc;decide
  ·cases hc
theorem Rd (w:World):Calls Tryz.prog 32 #[.string ⟨#[51,120,51]⟩] w fun e w'=>e = .returned (.bool false)∧Below w.heap.size w w':=
 (Z6 ⟨#[51,120,51]⟩ w (by decide)).mono fun e w' h=>by
  obtain⟨b,rfl,hb,hB⟩:=h;refine⟨?_,hB⟩;cases b
  ·rfl
  ·have:=(hb.1 rfl).2 0 (by decide) 51 rfl
   exact absurd this (by decide)
theorem Xg (w:World) (t1 t2:TypeId) (a b:List jn) (n:Nat) (ha:a.length=n) (hb:b.length=n) (hn:n≤100):
  kd (((w.alloc (.cells (jO a).toArray t1)).alloc (.cells (jO b).toArray t1)).alloc (.cells #[.slice (some ⟨w.heap.size,0,none⟩) n n,.slice (some ⟨w.heap.size+1,0,none⟩) n n] t2)) (.slice (some ⟨w.heap.size+1+1,0,none⟩) 2 2) [a,b]:=by
 have h0:=((ja.make w t1 (jO a)).alloc (.cells (jO b).toArray t1)).alloc (.cells #[.slice (some ⟨w.heap.size,0,none⟩) n n,.slice (some ⟨w.heap.size+1,0,none⟩) n n] t2);have h1:=(ja.make (w.alloc (.cells (jO a).toArray t1)) t1 (jO b)).alloc (.cells #[.slice (some ⟨w.heap.size,0,none⟩) n n,.slice (some ⟨w.heap.size+1,0,none⟩) n n] t2);have h2:=ja.make ((w.alloc (.cells (jO a).toArray t1)).alloc (.cells (jO b).toArray t1)) t2 [.slice (some ⟨w.heap.size,0,none⟩) n n,.slice (some ⟨w.heap.size+1,0,none⟩) n n];simp only[World.size_alloc] at h1 h2;exact kd.two (h2.slW 2 rfl (by decide)) (h0.slW n (by rw[qg,ha]) (by omega)) (h1.slW n (by rw[qg,hb]) (by omega))
theorem DH (w:World) (t1 t2:TypeId) (a:List jn) (n:Nat) (ha:a.length=n) (hn:n≤100):
  kd ((w.alloc (.cells (jO a).toArray t1)).alloc (.cells #[.slice (some ⟨w.heap.size,0,none⟩) n n] t2)) (.slice (some ⟨w.heap.size+1,0,none⟩) 1 1) [a]:=by
 have h0:=(ja.make w t1 (jO a)).alloc (.cells #[.slice (some ⟨w.heap.size,0,none⟩) n n] t2);have h2:=ja.make (w.alloc (.cells (jO a).toArray t1)) t2 [.slice (some ⟨w.heap.size,0,none⟩) n n];simp only[World.size_alloc] at h2;exact kd.one (h2.slW 1 rfl (by decide)) (h0.slW n (by rw[qg,ha]) (by omega))
theorem VI (w:World) (t1 t2:TypeId) (a b:List Int) (n m:Nat) (ha:a.length=n) (hb:b.length=m) (hn:n≤100) (hm:m≤100):
  yW (((w.alloc (.cells (je a).toArray t1)).alloc (.cells (je b).toArray t1)).alloc (.cells #[.slice (some ⟨w.heap.size,0,none⟩) n n,.slice (some ⟨w.heap.size+1,0,none⟩) m m] t2)) (.slice (some ⟨w.heap.size+1+1,0,none⟩) 2 2) [a,b]:=by
 have h0:=((ja.make w t1 (je a)).alloc (.cells (je b).toArray t1)).alloc (.cells #[.slice (some ⟨w.heap.size,0,none⟩) n n,.slice (some ⟨w.heap.size+1,0,none⟩) m m] t2);have h1:=(ja.make (w.alloc (.cells (je a).toArray t1)) t1 (je b)).alloc (.cells #[.slice (some ⟨w.heap.size,0,none⟩) n n,.slice (some ⟨w.heap.size+1,0,none⟩) m m] t2);have h2:=ja.make ((w.alloc (.cells (je a).toArray t1)).alloc (.cells (je b).toArray t1)) t2 [.slice (some ⟨w.heap.size,0,none⟩) n n,.slice (some ⟨w.heap.size+1,0,none⟩) m m];simp only[World.size_alloc] at h1 h2;exact yW.two (h2.sl 2 rfl (by decide)) (h0.sl n (by rw[kx,ha]) (by omega)) (h1.sl m (by rw[kx,hb]) (by omega))
theorem yW.wide {w:World} {v:Value} {M:List (List Int)} (h:yW w v M):qH w v M:=by
 obtain⟨vs,h1,h2,h3⟩:=h;exact⟨vs,h1.wide,h2,fun i r hr=>by obtain⟨u,hu,hs⟩:=h3 i r hr;exact⟨u,hu,hs.wide⟩⟩
theorem DI (w:World) (t1 t2:TypeId) (a:List Int) (n:Nat) (ha:a.length=n) (hn:n≤100):
  qH ((w.alloc (.cells (je a).toArray t1)).alloc (.cells #[.slice (some ⟨w.heap.size,0,none⟩) n n] t2)) (.slice (some ⟨w.heap.size+1,0,none⟩) 1 1) [a]:=by
 have h0:=(ja.make w t1 (je a)).alloc (.cells #[.slice (some ⟨w.heap.size,0,none⟩) n n] t2);have h2:=ja.make (w.alloc (.cells (je a).toArray t1)) t2 [.slice (some ⟨w.heap.size,0,none⟩) n n];simp only[World.size_alloc] at h2;exact qH.one (h2.slW 1 rfl (by decide)) (h0.slW n (by rw[kx,ha]) (by omega))
theorem Xf (w:World) (t1:TypeId) (a:List Int) (n:Nat) (ha:a.length=n) (hn:n≤100):
  Sl (w.alloc (.cells (je a).toArray t1)) 1 (.slice (some ⟨w.heap.size,0,none⟩) n n) (je a):=(ja.make w t1 (je a)).sl n (by rw[kx,ha]) (by omega)
theorem VJ (w:World) (t1:TypeId) (a:List jn) (n:Nat) (ha:a.length=n) (hn:n≤100):
  jB (w.alloc (.cells (jO a).toArray t1)) (.slice (some ⟨w.heap.size,0,none⟩) n n) (jO a):=(ja.make w t1 (jO a)).slW n (by rw[qg,ha]) (by omega)
theorem kd.more {w:World} {v:Value} {M:List (List jn)} (h:kd w v M) (o:Obj):kd (w.alloc o) v M:=h.below ((Below.refl _ _).alloc (Nat.le_refl _) _)
theorem jB.more {w:World} {v:Value} {xs:List Value} (h:jB w v xs) (o:Obj):jB (w.alloc o) v xs:=h.below ((Below.refl _ _).alloc (Nat.le_refl _) _)
theorem YT (w:World) (g:Nat) (hg:w.heap.size=g) (t1:TypeId) (a:List jn) (n:Nat) (ha:a.length=n) (hn:n≤100):
  jB (w.alloc (.cells (jO a).toArray t1)) (.slice (some ⟨g,0,none⟩) n n) (jO a):=by subst hg;exact VJ w t1 a n ha hn
theorem GS (w:World) (a b c:Obj):(((w.alloc a).alloc b).alloc c).heap.size=w.heap.size+1+1+1:=by simp
theorem FE (w:World) (a b c d:Obj):((((w.alloc a).alloc b).alloc c).alloc d).heap.size=w.heap.size+1+1+1+1:=by simp
theorem qH.more {w:World} {v:Value} {M:List (List Int)} (h:qH w v M) (o:Obj):qH (w.alloc o) v M:=h.below ((Below.refl _ _).alloc (Nat.le_refl _) _)
theorem G7 (q:Rat):xl (jg q)=0 ↔ ¬kR q:=by
 rw[Du,decDigits_length,decDigits_length];unfold kR;split
 ·rename_i h;exact⟨fun h=>absurd h (by decide),fun h2=>absurd h h2⟩
 ·rename_i h;exact⟨fun _=>h,fun _=>rfl⟩
