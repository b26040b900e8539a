/- Contracts: the library's slices over int64: Reverse. -/
import Derived.Test.YteagkgagdelklaaGreatDoorZT10
set_option maxRecDepth 100000
set_option maxHeartbeats 4000000
namespace Go.Proofs.YteagkgagdelklaaGreatDoor
open Go.RowKit
def xc {α:Type} (L:List α) (k:Nat):List α:=L.mapIdx fun j x=>if j<k∨L.length≤j+k then L[L.length-1-j]?.getD x else x
theorem Kc {α:Type} (L:List α) (k:Nat):(xc L k).length=L.length:=by simp[xc]
theorem MQ {α:Type} (L:List α):xc L 0=L:=by
 apply Qaw;intro j;simp only[xc,Qaj];rcases Qae j L.length with h | h
 ·rw[Qaa h];simp only[QaC];rw[if_neg (by omega)]
 ·rw[Qah h];rfl
theorem MO {α:Type} (L:List α) (k:Nat) (h:L.length≤2*k+1):xc L k=L.reverse:=by
 apply Qaw;intro j;simp only[xc,Qaj];rcases Qae j L.length with hj | hj
 ·rw[Qaa hj,List.getElem?_reverse hj]
  simp only[QaC];rw[Qaa (by omega:L.length-1-j<L.length)];by_cases hc:j<k∨L.length≤j+k
  ·rw[if_pos hc];rfl
  ·rw[if_neg hc]
   have:L.length-1-j=j:=by omega
   simp only[this]
 ·rw[Qah hj,Qah (l:=L.reverse) (by rw[QbD];exact hj)];rfl
theorem Ym {α:Type} (L:List α) (k j:Nat) (h1:k≤j) (h2:j+k<L.length):(xc L k)[j]? =L[j]? :=by
 simp only[xc,Qaj];rw[Qaa (by omega:j<L.length)];simp only[QaC];rw[if_neg (by omega)]
theorem MP {α:Type} (L:List α) (k:Nat) (a b:α) (h:2*k+1<L.length) (ha:L[k]? =some a) (hb:L[L.length-1-k]? =some b):((xc L k).set k b).set (L.length-1-k) a=xc L (k+1):=by
 apply Qaw;intro j;rw[QbG,QbG,Qbz,Kc];simp only[xc,Qaj];by_cases h1:L.length-1-k=j
 ·subst h1
  rw[if_pos rfl,if_pos (by omega),Qaa (by omega:L.length-1-k<L.length)];simp only[QaC];rw[if_pos (by omega),show L.length-1-(L.length-1-k)=k by omega,ha];rfl
 ·rw[if_neg h1]
  by_cases h2:k=j
  ·subst h2
   rw[if_pos rfl,if_pos (by omega),Qaa (by omega:k<L.length)];simp only[QaC];rw[if_pos (by omega),hb];rfl
  ·rw[if_neg h2]
   rcases Qae j L.length with hj | hj
   ·rw[Qaa hj]
    simp only[QaC,QaT];by_cases hc:j<k∨L.length≤j+k
    ·rw[if_pos hc,if_pos (by omega)]
    ·rw[if_neg hc,if_neg (by omega)]
   ·rw[Qah hj];rfl
theorem MR (w:World) (b n c:Nat) (L:List Int) (hO:ja w b 2 (je L)) (hn:n=L.length) (hc1:n≤c) (hc2:c≤1000000):
  Calls Tryz.prog 112 #[.slice (some ⟨b,0,none⟩) n c] w fun e w'=>e = .returned (.tuple #[])∧ja w' b 2 (je L.reverse)∧jk b w w':=by
 have hb:b<w.heap.size:=hO.lt
 have hst:ja w b 2 (je (xc L 0)):=by rw[MQ];exact hO
 have HN:=Lib.hid hn;clear hO hn;go_enter Tryz.func112,Tryz.ntmps112
 go_wp2_with fail
 go_loopg [2,3] n (fun gh i j wr=>∃k:Nat,i = .int .i64 k∧j = .int .i64 ((n:Int)-1-k)∧k+gh=n∧2*k≤n+1∧Hid (ja wr b 2 (je (xc L k)))∧jk b w wr)
 case atStart=>exact⟨0,rfl,by go_num,by omega,by omega,Lib.hid hst,jk.refl _ _⟩
 case round=>
  clear hst;obtain⟨k,rfl,rfl,hk,hk2,hO,hB⟩:=hrel;by_cases hlt:2*k+1<n
  ·have hti:(k:Int)<(n:Int)-1-k:=by omega
   have hjj:(n:Int)-1-k=((n-1-k:Nat):Int):=by omega
   have hl:=HN.out;have e1:=Ym L k k (Nat.le_refl _) (by omega);have e2:=Ym L k (n-1-k) (by omega) (by omega);have c1:=(hO.out.cell k).trans (kz (xc L k) k (by rw[Kc];omega));have c2:=(hO.out.cell (n-1-k)).trans (kz (xc L k) (n-1-k) (by rw[Kc];omega));have f1:=hO.out.free k;have f2:=hO.out.free (n-1-k)
   have hne:¬k=n-1-k:=by omega
   have hln:=hO.out.lt;have Hs:=Lib.hid (MP L k (L[k]?.getD 0) (L[n-1-k]?.getD 0) (by omega) (by rw[Qaa (by omega)];rfl) (by rw[←hl,Qaa (by omega)];rfl));rw[e1] at c1;rw[e2] at c2;rw[←hl] at Hs;clear e1 e2 hl;rw[hjj] at hti ⊢;generalize L[k]?.getD 0=x at *;generalize L[n-1-k]?.getD 0=y at *
   have hjn:n-1-k<n:=by omega
   generalize hj:n-1-k=j at *;have Hj:=Lib.hid hj;have Hjj:=Lib.hid hjj;clear hj hjj
   go_wp2_with fail
   go_region
   have HO2:Hid (ja ((wr.setCell ⟨b,k,none⟩ (.int .i64 y)).setCell ⟨b,j,none⟩ (.int .i64 x)).drew b 2 (je (xc L (k+1)))):=Lib.hid (by
    rw[←Hs.out,←x6,←x6]
    exact(hO.out.put k _).put j _)
   have hB2:=((hB.setCell ⟨b,k,none⟩ rfl (.int .i64 y)).setCell ⟨b,j,none⟩ rfl (.int .i64 x)).drew;clear hO hB Hs
   go_wp2
   go_roundg (gk-1)
   case rel=>exact⟨k+1,by go_num,by have:=Hj.out;go_num,by have:=Hj.out;omega,by omega,HO2,hB2⟩
   case measure=>omega
  ·have hti:¬((k:Int)<(n:Int)-1-k):=by omega
   have HO:=Lib.hid (show ja wr b 2 (je L.reverse) by rw[←MO L k (by have:=HN.out;omega)];exact hO.out);clear hO
   go_wp2
   go_end0
   exact⟨rfl,HO.out,hB⟩
abbrev jS:=Nat×Nat×List Int
def qL (n:Nat) (r:jS):Value:= .slice (some ⟨r.1,0,none⟩) n r.2.1
structure kj (w:World) (g:Nat) (R:List jS) (n:Nat):Prop where
 own:ja w g 118 (R.map (qL n))
 row:∀r∈R,ja w r.1 2 (je r.2.2)∧r.2.2.length=n∧n≤r.2.1∧r.2.1≤1000000
 apart:(R.map (·.1)).Nodup
theorem ja.apart {w:World} {g h:Nat} {s t:TypeId} {cs ds:List Value} (a:ja w g s cs) (b:ja w h t ds) (hst:s≠t):g≠h:=by
 intro e;subst e;unfold ja at a b;rw[a] at b
 injection b with b
 injection b with _ b
 exact hst b
theorem kj.below {w w':World} {g:Nat} {R:List jS} {n:Nat} (h:kj w g R n) (hb:Below w.heap.size w w'):kj w' g R n:=
 ⟨h.own.below hb h.own.lt,fun r hr=>⟨(h.row r hr).1.below hb (h.row r hr).1.lt,(h.row r hr).2⟩,h.apart⟩
theorem kj.cellRow {w:World} {g:Nat} {R:List jS} {n:Nat} (h:kj w g R n) {i:Nat} {r:jS} (hr:R[i]? =some r):w.cell? ⟨g,i,none⟩=some (qL n r):=by
 rw[h.own.cell i,Qao,hr];rfl
theorem kj.cellNum {w:World} {g:Nat} {R:List jS} {n:Nat} (h:kj w g R n) {i j:Nat} {r:jS} (hr:R[i]? =some r) (hj:j<n):w.cell? ⟨r.1,j,none⟩=some (.int .i64 (r.2.2[j]?.getD 0)):=by
 have:=h.row r (Qab hr);exact(this.1.cell j).trans (kz _ _ (by omega))
theorem EV (g c n:Nat) (R:List jS) (w:World) (hM:kj w g R n):
  Calls Tryz.prog 113 #[.slice (some ⟨g,0,none⟩) R.length c] w fun e w'=>e = .returned (.int .i64 ((if R=[] then 0 else n:Nat):Int))∧w=w':=by
 rcases R with _ | ⟨r,R⟩
 ·go_enter Tryz.func113,Tryz.ntmps113
  go_wp2
  go_ret;exact⟨rfl,rfl⟩
 ·have hck:=hM.cellRow (i:=0) (r:=r) rfl
  have hl:((((r::R).length:Nat):Int)==0)=false:=by simp;omega
  unfold qL at hck
  have hpos:0<(r::R).length:=by simp
  clear hM;generalize (r::R).length=m at *;go_enter Tryz.func113,Tryz.ntmps113
  go_wp2
  go_ret;exact⟨rfl,rfl⟩
def Je (R:List jS) (i j:Nat):Int:=((R[i]?.map (·.2.2)).getD [])[j]?.getD 0
theorem GG {R:List jS} {i j:Nat} {r:jS} (hr:R[i]? =some r):Je R i j=r.2.2[j]?.getD 0:=by unfold Je;rw[hr];rfl
def Xa (R:List jS) (t a c:Nat):Prop:=∀j,a≤j→j<c → ∀i,t≤i→i<R.length→Je R i j=0
def GZ (R:List jS) (n top from_:Nat) (w:World) (e:Ending) (w':World):Prop:=
 Below w.heap.size w w'∧((∃i j:Nat,e = .returned (.tuple #[.int .i64 i,.int .i64 j,.bool true])∧top≤i∧i<R.length∧from_≤j∧j<n∧Je R i j≠0∧(∀k,top≤k→k<i→Je R k j=0)∧Xa R top from_ j)
  ∨ (∃i j:Int,e = .returned (.tuple #[.int .i64 i,.int .i64 j,.bool false])∧Xa R top from_ n))
theorem Cs (p:Int) (g c n:Nat) (R:List jS) (w:World) (top from_:Nat) (hM:kj w g R n) (hR:R≠[]) (hc:R.length≤c) (hc2:c≤1000000) (ht:top≤R.length) (hf:from_≤n) (hn:n≤1000000):
  Calls Tryz.prog 148 #[.iface 117 (.agg #[.int .i64 p]),.slice (some ⟨g,0,none⟩) R.length c,.int .i64 top,.int .i64 from_] w (GZ R n top from_ w):=by
 have hZ:=ZB p;have hZn:=AN p
 have hmf:∀(fn:Fn) (first cap:Array Value) (w:World),(Instr.makeFunc fn first cap).run Tryz.prog w = .ok (.func fn first cap) w:=fun _ _ _ _=>rfl
 have HZ:=Lib.hid (fun (x:Int) W=>Uu p x W);have HW:=Lib.hid (fun W (h:kj W g R n)=>by have:=EV g c n R W h;rw[if_neg hR] at this;exact this);have HR:=Lib.hid hR;have HM:=Lib.hid hM;clear hR hM;go_enter Tryz.func148,Tryz.ntmps148
 go_wp2_with fail
 go_step3
 go_wp2_with fail
 try go_step3
 try go_wp2_with fail
 go_loopg [8,9,10] (n-from_) (fun gh r j f wr=>∃(rr:Int) (k:Nat),r = .int .i64 rr∧j = .int .i64 k∧f = .bool false∧from_≤k∧k+gh=n∧Hid (Xa R top from_ k)∧Hid (kj wr g R n)∧Below w.heap.size w wr)
 case atStart=>exact⟨0,from_,rfl,rfl,rfl,by omega,by omega,Lib.hid (fun j h1 h2=>by omega),HM,Below.refl _ _⟩
 case round=>
  clear HM;obtain⟨rr,k,rfl,rfl,rfl,hk1,hk2,hC,hMr,hB⟩:=hrel
  cases gk with
  | zero=>
   have hkn:k=n:=by omega
   subst hkn
   go_wp2_with (go_at_call 113;refine(HW.out _ hMr.out).mono ?_;rintro e w2 ⟨rfl,rfl⟩)
   rw[Exit.noGoto_ret];go_ret3;exact⟨hB,Or.inr ⟨_,_,rfl,hC.out⟩⟩
  | succ gh=>
   have hlt:k<n:=by omega
   go_wp2_with (go_at_call 113;refine(HW.out _ hMr.out).mono ?_;rintro e w2 ⟨rfl,rfl⟩)
   go_loopg [8,10] (R.length-top) (fun h r f wx=>∃i:Nat,r = .int .i64 i∧f = .bool false∧top≤i∧i+h=R.length∧Hid (∀t,top≤t→t<i→Je R t k=0)∧Hid (kj wx g R n)∧Below w.heap.size w wx)
   case atStart=>exact⟨top,rfl,rfl,by omega,by omega,Lib.hid (fun t h1 h2=>by omega),hMr,hB⟩
   case round=>
    clear hMr hB;obtain⟨i,rfl,rfl,hi1,hi2,hT,hMx,hBx⟩:=hrel
    cases gk with
    | zero=>
     have hin:¬((i:Int)<(R.length:Int)):=by omega
     have hie:i=R.length:=by omega
     have HT:=Lib.hid hT.out;rw[hie] at HT
     have Hcl:Hid (Xa R top from_ (k+1)):=Lib.hid (by
      intro j h1 h2 t h3 h4;rcases Qae j k with h5 | h5
      ·exact hC.out j h1 h5 t h3 h4
      ·have:j=k:=by omega
       subst this;exact HT.out t h3 h4)
     clear hie
     go_wp2
     go_roundg gh
     case rel=>exact⟨i,k+1,rfl,by go_num,rfl,by omega,by omega,Hcl,hMx,hBx⟩
     case measure=>omega
    | succ h=>
     have hin:(i:Int)<(R.length:Int):=by omega
     have hil:i<R.length:=by omega
     obtain⟨r,hr⟩:∃r,R[i]? =some r:=⟨R[i],Qaa hil⟩
     have hc1:=hMx.out.cellRow hr;have hc3:=hMx.out.cellNum hr hlt;have hcap:=(hMx.out.row r (Qab hr)).2.2;have hblk:=(hMx.out.row r (Qab hr)).1.lt;have Hnum:=Lib.hid (GG (j:=k) hr);unfold qL at hc1;obtain⟨rb,rc,rl⟩:=r;dsimp only at hc1 hc3 hcap hblk Hnum;have Hr:=Lib.hid hr;clear hr;generalize rl[k]?.getD 0=x at *
     go_wp2
     have HMr:=Lib.hid (fun (w4:World) (hb:Below wr.drew.heap.size wr.drew w4)=>(hMx.out.below (jk.dr hb)));have HBr:=Lib.hid (fun (w4:World) (hb:Below wr.drew.heap.size wr.drew w4)=>(hBx.trans ((jk.dr hb).mono hBx.size)));by_cases h0:(x==0)=true
     ·have Hnext:Hid (∀t,top≤t→t<i+1→Je R t k=0):=Lib.hid (by
       intro t h1 h2;rcases Qae t i with h3 | h3
       ·exact hT.out t h1 h3
       ·have:t=i:=by omega
        subst this;rw[Hnum.out];simpa using h0)
      go_region_with (go_at_call 254;go_split_ands;refine(HZ.out x _).mono ?_;rintro e w4 ⟨rfl,hB4⟩)
      all_goals (
       have HM4:=Lib.hid (HMr.out _ hB4);have HB4:=HBr.out _ hB4;clear hB4
       go_wp2
       go_roundg h
       case rel=>exact⟨i+1,by go_num,rfl,by omega,by omega,Hnext,HM4,HB4⟩
       case measure=>omega)
     ·have h0':(x==0)=false:=by simpa using h0
      have Hx:Hid (Je R i k≠0):=Lib.hid (by rw[Hnum.out];simpa using h0);clear h0
      go_region_with (go_at_call 254;go_split_ands;refine(HZ.out x _).mono ?_;rintro e w4 ⟨rfl,hB4⟩)
      all_goals (
       have HB4:=HBr.out _ hB4;clear hB4
       go_wp2
       rw[Exit.noGoto_ret];go_ret3
       exact⟨HB4,Or.inl ⟨i,k,rfl,hi1,hil,hk1,hlt,Hx.out,fun t h1 h2=>hT.out t h1 h2,hC.out⟩⟩)
