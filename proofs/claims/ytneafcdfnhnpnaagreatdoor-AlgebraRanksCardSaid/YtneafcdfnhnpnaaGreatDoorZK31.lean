/- Contract: the rank of a permutation. -/
import Derived.Test.YtneafcdfnhnpnaaGreatDoorZK30
set_option maxRecDepth 100000
set_option maxHeartbeats 8000000
namespace Go.Proofs.YtneafcdfnhnpnaaGreatDoor
open Go.RowKit
def kO (p:List Int) (i m:Nat):Nat:=(((p.drop (i+1)).take m).filter fun y=>decide (y<p[i]?.getD 0)).length
theorem Ka (p:List Int) (i m:Nat):kO p i m≤m:=by
 unfold kO;refine Nat.le_trans (List.length_filter_le _ _) ?_;rw[List.length_take];omega
theorem VG (p:List Int) (i m:Nat) (h:i+1+m<p.length):kO p i (m+1)=kO p i m+(if p[i+1+m]?.getD 0<p[i]?.getD 0 then 1 else 0):=by
 unfold kO;rw[XO _ m (by rw[List.length_drop];omega),List.filter_append,List.length_append,List.getElem?_drop]
 congr 1
 by_cases hy:p[i+1+m]?.getD 0<p[i]?.getD 0 <;> simp[hy]
def ka (p:List Int):Nat→Nat
 | 0=>0
 | k+1=>ka p k*(p.length-k)+kO p k (p.length-k-1)
theorem Qf (p:List Int) (hp:p.length≤256) (k:Nat):ka p k<10^(3*k):=by
 induction k with
 | zero=>simp[ka]
 | succ k ih=>
  have h1:=Ka p k (p.length-k-1);have h2:ka p k*(p.length-k)≤ka p k*256:=Nat.mul_le_mul_left _ (by omega)
  have h3:10^(3*(k+1))=10^(3*k)*1000:=by rw[Nat.mul_add,Nat.pow_add]
  show ka p k*(p.length-k)+kO p k (p.length-k-1)<_
  rw[h3];omega
theorem AG (n:Nat):(jV false n 1).num.natAbs≤n:=by
 obtain⟨e1,e2⟩:=Kb (n:=(n:Int)) (d:=1) (by decide) (by simp);unfold jV;simp only[Bool.false_eq_true,if_false];rw[e1];omega
theorem AF (n:Nat):(jV false n 1).den=1:=by
 obtain⟨e1,e2⟩:=Kb (n:=(n:Int)) (d:=1) (by decide) (by simp);unfold jV;simp only[Bool.false_eq_true,if_false];exact e2
def Zt (p:List Int) (w:World) (e:Ending) (w':World):Prop:=
 (if ji p=0 then e=xL (jV false (ka p p.length) 1) else e = .returned (.tuple #[.string ⟨#[]⟩,.int .i64 (ji p)]))∧Below w.heap.size w w'
theorem Yc (v:Value) (p:List Int) (w:World) (hv:Sl w 1 v (jc p)) (hG:jH w) (hD:ql (3*p.length)):
  Calls Tryz.prog 58 #[v] w (Zt p w):=by
 obtain⟨A,c,rfl,hc1,hc2⟩:=hv.form;simp only[jQ] at hc1 hv ⊢;have HD:=Lib.hid hD;clear hD;have CP:=Lib.hid (fun W h=>Qv (.slice A p.length c) p W h);by_cases he:ji p=0
 ·have hPl:p.length≤256:=by have:=he;unfold ji at this;split at this;omega;split at this;omega;omega
  have He:=Lib.hid he;clear he;go_enter Tryz.func58,Tryz.ntmps58
  go_wp2_with fail
  refine(CP.out _ hv).mono ?_;rintro e w1 ⟨rfl,hB1⟩;rw[He.out]
  go_wp2_with fail
  go_loopg [5,6,7,8,10,18] p.length (fun g r _ _ _ _ i wr=>∃(k:Nat),k+g=p.length∧i = .int .i64 k∧Hid (Nt wr r (ka p k))∧Below w.heap.size w wr)
  case atStart=>exact⟨0,by omega,rfl,Lib.hid Nt.nil,hB1⟩
  case round=>
   clear hB1;obtain⟨k,hk,rfl,hN,hB⟩:=hrel
   cases gk with
   | zero=>
    have hkn:k=p.length:=by omega
    rw[hkn] at hN;have hlt:=Qf p hPl p.length;have hfit:=Lib.hid (jl.of_pow hlt HD.out (by omega));clear hlt hk;subst hkn;obtain⟨A2,rn,rc,rfl,_⟩:=hN.out.size_;have hone:=Nt.one wr 148;have hN1:=Lib.hid (Rt.mk_ (neg:=false) (by decide) (by simp) (by simp) (hN.out.below ((Below.refl _ _).alloc (Nat.le_refl _) (.cells #[.int .u64 1] 148))) hone);have hBw:=hB.alloc hB.size (.cells #[.int .u64 1] 148);have hGw:=hG.below hBw;clear hone
    go_wp2_with fail
    refine(XZ _ _ _ hN1.out (jl.le hfit.out (AG _)) (jl.small (by rw[AF];decide)) hGw).mono ?_;rintro e w4 ⟨he,hB4⟩;have hBt:=hBw.trans (hB4.mono hBw.size)
    have Hif:Hid (∀e,e=xL (jV false (ka p p.length) 1)→Zt p w e w4):=fun e he=>⟨by rw[if_pos He.out];exact he,hBt⟩
    obtain⟨s,c,hs⟩:=Mc (jV false (ka p p.length) 1);rw[hs] at he Hif;subst he;clear hs
    go_wp2
    go_ret2;exact Hif.out _ rfl
   | succ g=>
    have hlt:k<p.length:=by omega
    obtain⟨b1,off1,rfl,hbb1,hcell1⟩:=hv.at_ (k:=k) (by rw[jQ];omega);have hck1:=(hB.cell (p:=⟨b1,off1+k,none⟩) hbb1).trans ((hcell1 k (by rw[jQ];omega)).trans (kh p k hlt));have HC:=Lib.hid (fun (wx:World) (j:Nat) (hb:Below w.heap.size w wx) (hj:j<p.length)=>(hb.cell (p:=⟨b1,off1+j,none⟩) hbb1).trans ((hcell1 j (by rw[jQ];omega)).trans (kh p j hj)));have Hs:=Lib.hid (fun m h=>VG p k m h);have Hk:Hid (k+(g+1)=p.length):=Lib.hid hk;have TP:=Lib.hid (fun u wx (h:Nt wx u (ka p k))=>GW u _ (p.length-k) (kO p k (p.length-k-1)) wx h (by unfold WB;omega) (by have:=Ka p k (p.length-k-1);unfold WB;omega) (jl.of_pow (Qf p hPl k) (HD.out.le (by omega)) (by omega)))
    have hl1:(p.length:Int)-((k:Int)+1)=((p.length-k-1:Nat):Int):=by omega
    clear hcell1;obtain⟨A2,rn,rc,rfl,_⟩:=hN.out.size_;generalize hx:p[k]?.getD 0=x at *
    have hl2:(p.length:Int)-(k:Int)=((p.length-k:Nat):Int):=by omega
    have HX:Hid (p[k]?.getD 0=x):=Lib.hid hx;clear hx hv hl1 hk;rcases Decidable.em (c=k+1) with rfl | hcc
    all_goals (
     go_wp2_with fail
     go_loopg [8,10,28] (p.length-k-1) (fun h l _ i wx=>∃m:Nat,m+h=p.length-k-1∧l = .int .i64 (kO p k m)∧i = .int .i64 m∧Hid (Nt wx (.slice A2 rn rc) (ka p k))∧Below w.heap.size w wx)
     case atStart=>exact⟨0,by omega,by simp[kO],rfl,hN,hB⟩
     case round=>
      clear hN hB hck1;obtain⟨m,hm,rfl,rfl,hNx,hBx⟩:=hrel
      cases gk with
      | zero=>
       have hmm:m=p.length-k-1:=by omega
       have hin:¬((m:Int)<((p.length-(k+1):Nat):Int)):=by omega
       have TPx:=Lib.hid (TP.out _ _ hNx.out);rw[←hmm] at TPx
       have hll:kO p k m≤256:=by have:=Ka p k m;omega
       have Hst:Hid (ka p (k+1)=ka p k*(p.length-k)+kO p k m):=Lib.hid (by rw[hmm];rfl)
       have hpk:p.length-k≤256:=by omega
       clear hm hmm;generalize kO p k m=lu at *
       go_wp2_with (go_at_call 138;refine TPx.out.mono ?_;rintro e w5 ⟨u,rfl,hNu,hB5⟩;rw[←Hst.out] at hNu;have HNu:=Lib.hid hNu;clear hNu)
       go_roundg g
       case rel=>exact⟨k+1,by have:=Hk.out;omega,by go_num,HNu,hBx.trans (hB5.mono hBx.size)⟩
       case measure=>omega
      | succ h=>
       have hin:((m:Int)<((p.length-(k+1):Nat):Int)):=by omega
       have hck:=HC.out _ (k+1+m) hBx (by omega);have hle:=Ka p k m;have Hs2:=Hs.out m (by omega);have Hm:=Lib.hid hm
       have hadd:off1+(k+1)+m=off1+(k+1+m):=by omega
       generalize p[k+1+m]?.getD 0=y at *;by_cases hyx:y<x
       ·rw[if_pos hyx] at Hs2
        have HS:=Lib.hid Hs2;clear Hs2 hm;generalize kO p k m=lu at *
        go_wp2
        all_goals (
         go_roundg h
         case rel=>exact⟨m+1,by have:=Hm.out;omega,by rw[HS.out];rfl,by go_num,hNx,hBx⟩
         all_goals omega)
       ·rw[if_neg hyx] at Hs2
        have HS:=Lib.hid Hs2;clear Hs2 hm;generalize kO p k m=lu at *
        go_wp2
        all_goals (
         go_roundg h
         case rel=>exact⟨m+1,by have:=Hm.out;omega,by rw[HS.out];rfl,by go_num,hNx,hBx⟩
         all_goals omega))
 ·have hb:(ji p != 0)=true:=by simpa using he
  have Hne:=Lib.hid he;clear he;generalize hE:ji p=E at *;have HE:=Lib.hid hE;have Hres:Hid (∀e w',e = .returned (.tuple #[.string ⟨#[]⟩,.int .i64 E])→Below w.heap.size w w'→Zt p w e w'):=Lib.hid (fun e w' h1 h2=>⟨by rw[HE.out,if_neg Hne.out];exact h1,h2⟩);clear hE;go_enter Tryz.func58,Tryz.ntmps58
  go_wp2_with fail
  refine(CP.out _ hv).mono ?_;rintro e w1 ⟨rfl,hB1⟩
  go_wp2
  go_ret2;exact Hres.out _ _ rfl hB1
end Go.Proofs.YtneafcdfnhnpnaaGreatDoor
namespace Go.Proofs.YtneafcdfnhnpnaaGreatDoor
open Go.RowKit Go.Lib
theorem ja.slW {w:World} {g:Nat} {t:TypeId} {cs:List Value} (h:ja w g t cs) (n:Nat) (hn:cs.length=n) (hs:n≤140737488355328):jE w (.slice (some ⟨g,0,none⟩) n n) cs:=(h.sl n hn hs).wide
theorem ku.two {w:World} {v v0 v1:Value} {r0 r1:List jB} (h:jE w v [v0,v1]) (h0:jE w v0 (jR r0)) (h1:jE w v1 (jR r1)):ku w v [r0,r1]:=
 ⟨_,h,rfl,fun i r hr=>by
  rcases i with _ | _ | i
  ·cases hr;exact⟨_,rfl,h0⟩
  ·cases hr;exact⟨_,rfl,h1⟩
  ·cases hr⟩
theorem ku.one {w:World} {v v0:Value} {r0:List jB} (h:jE w v [v0]) (h0:jE w v0 (jR r0)):ku w v [r0]:=
 ⟨_,h,rfl,fun i r hr=>by
  rcases i with _ | i
  ·cases hr;exact⟨_,rfl,h0⟩
  ·cases hr⟩
theorem qE.one {w:World} {v v0:Value} {r0:List Int} (h:jE w v [v0]) (h0:jE w v0 (jc r0)):qE w v [r0]:=
 ⟨_,h,rfl,fun i r hr=>by
  rcases i with _ | i
  ·cases hr;exact⟨_,rfl,h0⟩
  ·cases hr⟩
theorem yV.two {w:World} {v v0 v1:Value} {r0 r1:List Int} (h:Sl w 1 v [v0,v1]) (h0:Sl w 1 v0 (jc r0)) (h1:Sl w 1 v1 (jc r1)):yV w v [r0,r1]:=
 ⟨_,h,rfl,fun i r hr=>by
  rcases i with _ | _ | i
  ·cases hr;exact⟨_,rfl,h0⟩
  ·cases hr;exact⟨_,rfl,h1⟩
  ·cases hr⟩
theorem TI.wide {w:World} {base:Nat} {v:Value} {M:List (List Int)} (h:TI w base v M) (hl:M.length≤1000000) (hr:∀r∈M,r.length≤1000000):qE w v M:=by
 obtain⟨vs,h1,h2,h3⟩:=h
 have h1':w.ownsRow base 50 1 v vs.length vs:=by rw[h2];exact h1
 have h4:=zc h1' (by omega);refine⟨vs,h4,h2,fun i r hi=> ?_⟩;obtain⟨u,bx,hu,_,ho⟩:=h3 i r hi;have:=hr r (List.mem_of_getElem? hi);exact⟨u,hu,zc ho (by omega)⟩
theorem EP (w:World) (hG:jH w):Calls Tryz.prog 34 #[.int .i64 6,.int .i64 (-4)] w fun e w'=>e = .returned (.tuple #[.string ⟨#[45,51,47,50]⟩,.int .i64 0])∧Below w.heap.size w w':=
 (MT 6 (-4) w (by omega) (by omega) hG).mono fun e w' h=>by
  obtain⟨h1,h2⟩:=h;rw[if_neg (by decide)] at h1
  have e1:¬kQ (((6:Int):Rat)/(((-4):Int):Rat)):=by decide +kernel
  have e2:jg (((6:Int):Rat)/(((-4):Int):Rat))=[45,51,47,50]:=by decide +kernel
  rw[zJ e1,e2] at h1;exact⟨h1,h2⟩
theorem EK (w:World):Calls Tryz.prog 36 #[.int .i64 12,.int .i64 (-18)] w fun e w'=>e = .returned (.tuple #[.int .i64 6,.int .i64 0])∧Below w.heap.size w w':=
 (MH 12 (-18) w).mono fun e w' h=>by
  obtain⟨h1,h2⟩:=h;rw[if_neg (by unfold far;omega)] at h1;exact⟨h1,h2⟩
theorem EM (w:World):Calls Tryz.prog 39 #[.int .i64 3,.int .i64 10] w fun e w'=>e = .returned (.tuple #[.int .i64 7,.int .i64 0])∧Below w.heap.size w w':=
 (MK 3 10 w).mono fun e w' h=>by
  obtain⟨h1,h2⟩:=h;rw[if_neg (by unfold far;omega),if_pos (by decide)] at h1;obtain⟨x,h3,h4,h5,h6⟩:=h1
  have:x=7:=by omega
  subst this;exact⟨h3,h2⟩
def pA:List Int:=[1,2,0,4,3]
theorem EH (v:Value) (w:World) (hv:Sl w 1 v (jc pA)):Calls Tryz.prog 49 #[v] w fun e w'=>(∃u,e = .returned (.tuple #[u,.int .i64 0])∧qE w' u [[0,1,2],[3,4]])∧Below w.heap.size w w':=
 (Mz v pA w hv).mono fun e w' h=>by
  have hp:ji pA=0:=by decide +kernel
  have hc:qF pA=[[0,1,2],[3,4]]:=by decide +kernel
  obtain⟨h1,h2 | h2⟩:=h
  ·obtain⟨_,u,base,rfl,hb,ht⟩:=h2
   rw[hc] at ht;exact⟨⟨u,rfl,ht.wide (by decide) (by decide)⟩,h1⟩
  ·exact absurd hp h2.1
theorem EU (v:Value) (w:World) (hv:Sl w 1 v (jc pA)):Calls Tryz.prog 50 #[v] w fun e w'=>e = .returned (.tuple #[.int .i64 (-1),.int .i64 0])∧Below w.heap.size w w':=
 (MZ v pA w hv).mono fun e w' h=>by
  have hp:ji pA=0:=by decide +kernel
  have hc:yh (qF pA) = -1:=by decide +kernel
  obtain⟨h1,h2⟩:=h;rw[if_pos hp,hp,hc] at h1;exact⟨h1,h2⟩
theorem ER (v:Value) (w:World) (hv:Sl w 1 v (jc pA)):Calls Tryz.prog 48 #[v,.int .i64 2] w fun e w'=>(∃u,e = .returned (.tuple #[u,.int .i64 0])∧jE w' u (jc [2,0,1,3,4]))∧Below w.heap.size w w':=
 (MW v pA 2 w hv).mono fun e w' h=>by
  have hp:ji pA=0:=by decide +kernel
  have hc:Wu pA 2=[2,0,1,3,4]:=by decide +kernel
  obtain⟨h1,h2⟩:=h;rw[if_pos hp,hc] at h1;obtain⟨u,h3,h4⟩:=h1;exact⟨⟨u,h3,h4.wide⟩,h2⟩
theorem ES (v:Value) (w:World) (hv:Sl w 1 v (jc [2,0,1])) (hG:jH w):Calls Tryz.prog 58 #[v] w fun e w'=>e = .returned (.tuple #[.string ⟨#[52]⟩,.int .i64 0])∧Below w.heap.size w w':=
 (Yc v [2,0,1] w hv hG (.inl (by decide))).mono fun e w' h=>by
  have hp:ji [2,0,1]=0:=by decide +kernel
  obtain⟨h1,h2⟩:=h;rw[if_pos hp] at h1
  have e1:¬kQ (jV false (ka [2,0,1] [(2:Int),0,1].length) 1):=by decide +kernel
  have e2:jg (jV false (ka [2,0,1] [(2:Int),0,1].length) 1)=[52]:=by decide +kernel
  rw[zJ e1,e2] at h1;exact⟨h1,h2⟩
theorem EW (w:World) (hG:jH w):Calls Tryz.prog 59 #[.int .i64 4,.string ⟨#[50,51]⟩] w fun e w'=>(∃u,e = .returned (.tuple #[u,.int .i64 0])∧jE w' u (jc [3,2,1,0]))∧Below w.heap.size w w':=
 (Ye 4 [50,51] w (by decide) hG (.inl (by decide)) (.small (by decide +kernel))).mono fun e w' h=>by
  have hp:qe 4 [50,51]=0:=by decide +kernel
  have hc:(jT (kg (jn [50,51]).2.num.natAbs (4:Int).toNat (4:Int).toNat) (4:Int).toNat).1=[3,2,1,0]:=by decide +kernel
  obtain⟨h1,h2 | h2⟩:=h
  ·obtain⟨_,g,rfl,hg,ho⟩:=h2
   rw[hc] at ho;exact⟨⟨_,rfl,ho.slW 4 rfl (by decide)⟩,h1⟩
  ·exact absurd hp h2.1
theorem XR (M:List (List jB)) (h:M.all (fun r=>r.all fun l=>decide (l.length≤19))=true):∀r∈M,∀l∈r,xB l:=fun r hr l hl=>by
 have:=of_decide_eq_true (List.all_eq_true.1 (List.all_eq_true.1 h r hr) l hl);exact⟨by omega,.inl this⟩
theorem ZP (L:List jB) (h:L.all (fun l=>decide (l.length≤19))=true):∀l∈L,xB l:=fun l hl=>by
 have:=of_decide_eq_true (List.all_eq_true.1 h l hl);exact⟨by omega,.inl this⟩
theorem EO (v:Value) (w:World) (hv:ku w v zx) (hG:jH w):Calls Tryz.prog 69 #[v] w fun e w'=>(∃u,e = .returned (.tuple #[u,.int .i64 0])∧ku w' u [[[49],[45,49,47,50],[48]]])∧Below w.heap.size w w':=
 (MO v zx w hv (XR _ (by decide)) hG (fun _=>by rw[QG];exact Nl Ec)).mono fun e w' h=>by
  obtain⟨h1,h2 | h2⟩:=h
  ·obtain⟨_,h3⟩:=h2
   rw[QG,show jM zx=3 from rfl,Ed] at h3;rcases h3 with h3 | h3
   ·obtain⟨_,g,B,rfl,hg,hT⟩:=h3
    have hv:=hT.vals
    have e2:([[(1:Rat),-1/2,0]].take [[(1:Rat),-1/2,0]].length).map (·.map jg)=[[[49],[45,49,47,50],[48]]]:=by decide +kernel
    rw[e2] at hv
    rcases B with _ | ⟨⟨b0,r0⟩,_ | ⟨r1,B⟩⟩
    ·simp at hv
    ·have hr0:r0=[[49],[45,49,47,50],[48]]:=by simpa using hv
     subst hr0;have ho:=hT.own;have hr:=(hT.rows (b0,_) (List.mem_singleton.2 rfl)).2.1;exact⟨⟨_,rfl,ku.one (ja.slW (cs:=[_]) ho 1 rfl (by decide)) (hr.slW 3 rfl (by decide))⟩,h1⟩
    ·simp at hv
   ·exact absurd Ee h3.1
  ·exact absurd Ef h2.1
theorem EV (v u:Value) (w:World) (hv:ku w v zx) (hu:jE w u (jR QD)) (hG:jH w):Calls Tryz.prog 76 #[v,u] w fun e w'=>(∃u,e = .returned (.tuple #[u,.int .i64 0])∧jE w' u (jR [[49],[48],[49]]))∧Below w.heap.size w w':=
 (M0 v u zx QD w hv hu (XR _ (by decide)) (ZP _ (by decide)) hG (fun _=>by rw[QG,Ui];exact CT Ek)).mono fun e w' h=>by
  obtain⟨h1,h2 | h2⟩:=h
  ·obtain⟨_,_,_,h3⟩:=h2
   rw[QG,Ui,show jM zx=3 from rfl,Em] at h3;rcases h3 with h3 | h3
   ·exact absurd h3.1 En
   ·rcases h3.2 with ⟨_,g,rfl,hg,ho⟩ | ⟨⟨q,hq,hl⟩,_⟩
    ·have e2:[(1:Rat),0,1].map jg=[[49],[48],[49]]:=by decide +kernel
     rw[e2] at ho;exact⟨⟨_,rfl,ho.slW 3 rfl (by decide)⟩,h1⟩
    ·exfalso
     simp only[List.mem_cons,List.not_mem_nil,or_false] at hq
     have a1:¬kQ 1:=by decide +kernel
     have a0:¬kQ 0:=by decide +kernel
     rcases hq with rfl | rfl | rfl
     ·exact a1 hl
     ·exact a0 hl
     ·exact a1 hl
  ·exact absurd Eg h2.1
theorem EJ (v:Value) (w:World) (hv:ku w v KA) (hG:jH w):Calls Tryz.prog 83 #[v] w fun e w'=>e = .returned (.tuple #[.string ⟨#[45,50]⟩,.int .i64 0])∧Below w.heap.size w w':=
 (MA v KA w hv (XR _ (by decide)) hG (fun _ _=>by rw[Uj];exact So M8)).mono fun e w' h=>by
  obtain⟨h1,h2 | h2 | h2⟩:=h
  ·have h3:=h2.2.2
   have e1:¬kQ (-2):=by decide +kernel
   have e2:jg (-2)=[45,50]:=by decide +kernel
   rw[Uj,show jM KA=2 from rfl,M9,zJ e1,e2] at h3;exact⟨h3,h1⟩
  ·exact absurd rfl h2.2.1
  ·exact absurd Eh h2.1
theorem ET (v u t:Value) (w:World) (hv:ku w v QF) (hu:jE w u (jR QE)) (ht:jE w t (jR QH)) (hG:jH w):Calls Tryz.prog 78 #[v,u,t] w fun e w'=>e = .returned (.int .i64 0)∧Below w.heap.size w w':=
 (Mx v u t QF QE QH w hv hu ht (XR _ (by decide)) (ZP _ (by decide)) (ZP _ (by decide)) hG (fun _ _=>by rw[Uk,Ul,Um];exact BK Ea)).mono fun e w' h=>by
  obtain⟨h1,h2 | h2 | h2⟩:=h
  ·obtain⟨_,_,h3 | h3⟩:=h2
   ·exact⟨h3.2,h1⟩
   ·refine absurd ?_ h3.1
    rw[Uk,Ul,Um];exact Eb
  ·exact absurd Ej h2.2.1
  ·exact absurd Ei h2.1
noncomputable def VE (p:Int) (n:Nat) (V:List (List Int)):List (List Int):=nsBasis (jC p) 0 1 n (kY (jC p) n (V.map List.reverse)) n
theorem Nm {p:Int} {n:Nat} {R:List jS} {V:List (List Int)} (h:R.map (·.2.2)=V):
  nsBasis (jC p) 0 1 n (j3 (jC p) n R.length 0 ⟨ke List.reverse R R.length,[],[],false⟩) n=VE p n V:=by
 have hv2:jv (ke List.reverse R R.length)=V.map List.reverse:=by rw[VT];rw[show jv R=V from h]
 have:=Q5 (F:=jC p) hv2 n;rw[KZ] at this;exact this.nsBasis 0 1 n n
theorem EN (v:Value) (w:World) (hv:yV w v [[1,2],[3,4]]):Calls Tryz.prog 87 #[v,.int .i64 2] w fun e w'=>(∃u,e = .returned (.tuple #[u,.int .i64 0])∧qE w' u [[0,1]])∧Below w.heap.size w w':=
 (MM v [[1,2],[3,4]] 2 w hv).mono fun e w' h=>by
  have a1:kM [[1,2],[3,4]]=0:=by decide +kernel
  have a2:yr 2:=⟨by omega,fun d h1 h2=>by omega⟩
  have a3:VE 2 2 [[1,0],[1,0]]=[[0,1]]:=by decide +kernel
  have a4:Kc 2 [[1,2],[3,4]]=[[1,0],[1,0]]:=by decide +kernel
  obtain⟨h1,h2 | h2 | h2⟩:=h
  ·obtain⟨_,_,_,R,u,B,rfl,hR,hT,hBl,hB⟩:=h2
   rw[a4] at hR;rw[show ((([[1,2],[3,4]]:List (List Int))[0]?.map (·.length)).getD 0)=2 from rfl,Nm hR,a3] at hB;have:=hT.tblW (by omega);rw[hB] at this;exact⟨⟨_,rfl,this⟩,h1⟩
  ·exact absurd ⟨a2,by omega⟩ h2.2.1
  ·exact absurd a1 h2.1
theorem bA {w W:World} (h:Below w.heap.size w W) (o:Obj):Below w.heap.size w (W.alloc o):=h.alloc h.size o
theorem bT {w W W':World} (h:Below w.heap.size w W) (k:Below W.heap.size W W'):Below w.heap.size w W':=h.trans (k.mono h.size)
theorem Us (L:List Int) (v u:Value) (w:World) (hv:jE w v (jc L)) (hu:jE w u (jc L)):Calls Tryz.prog 93 #[v,u] w fun e w'=>e = .returned (.bool true)∧Below w.heap.size w w':=
 (Zw v u L L w hv hu).mono fun e w' h=>⟨by rw[h.1];simp,h.2⟩
theorem Ut (L:List (List Int)) (v u:Value) (w:World) (hv:qE w v L) (hu:qE w u L):Calls Tryz.prog 54 #[v,u] w fun e w'=>e = .returned (.bool true)∧Below w.heap.size w w':=
 (BU v u L L w hv hu).mono fun e w' h=>⟨by rw[h.1];simp,h.2⟩
theorem E0 (L:List jB) (v u:Value) (w:World) (hv:jE w v (jR L)) (hu:jE w u (jR L)):Calls Tryz.prog 101 #[v,u] w fun e w'=>e = .returned (.bool true)∧Below w.heap.size w w':=
 (W8 v u L L w hv hu).mono fun e w' h=>⟨by rw[h.1];simp,h.2⟩
theorem EZ (L:List (List jB)) (v u:Value) (w:World) (hv:ku w v L) (hu:ku w u L):Calls Tryz.prog 99 #[v,u] w fun e w'=>e = .returned (.bool true)∧Below w.heap.size w w':=
 (BT v u L L w hv hu).mono fun e w' h=>⟨by rw[h.1];simp,h.2⟩
theorem EX (w:World):Calls Tryz.prog 32 #[.string ⟨#[108,111,95,115,104,117]⟩] w fun e w'=>e = .returned (.bool true)∧Below w.heap.size w w':=
 (Z9 ⟨#[108,111,95,115,104,117]⟩ w (by decide)).mono fun e w' h=>by
  obtain⟨b,rfl,hb,hB⟩:=h;refine⟨?_,hB⟩;rw[hb.2 ⟨by decide,fun i hi c hc=> ?_⟩];rcases i with _ | _ | _ | _ | _ | _ | i
  ·cases hc;decide
  ·cases hc;decide
  ·cases hc;decide
  ·cases hc;decide
  ·cases hc;decide
  ·cases hc;decide
  ·cases hc
theorem EY (w:World):Calls Tryz.prog 32 #[.string ⟨#[51,120,51]⟩] w fun e w'=>e = .returned (.bool false)∧Below w.heap.size w w':=
 (Z9 ⟨#[51,120,51]⟩ w (by decide)).mono fun e w' h=>by
  obtain⟨b,rfl,hb,hB⟩:=h;refine⟨?_,hB⟩;cases b
  ·rfl
  ·have:=(hb.1 rfl).2 0 (by decide) 51 rfl
   exact absurd this (by decide)
theorem Xh (w:World) (t1 t2:TypeId) (a b:List jB) (n:Nat) (ha:a.length=n) (hb:b.length=n) (hn:n≤100):
  ku (((w.alloc (.cells (jR a).toArray t1)).alloc (.cells (jR b).toArray t1)).alloc (.cells #[.slice (some ⟨w.heap.size,0,none⟩) n n,.slice (some ⟨w.heap.size+1,0,none⟩) n n] t2)) (.slice (some ⟨w.heap.size+1+1,0,none⟩) 2 2) [a,b]:=by
 have h0:=((ja.make w t1 (jR a)).alloc (.cells (jR b).toArray t1)).alloc (.cells #[.slice (some ⟨w.heap.size,0,none⟩) n n,.slice (some ⟨w.heap.size+1,0,none⟩) n n] t2);have h1:=(ja.make (w.alloc (.cells (jR a).toArray t1)) t1 (jR b)).alloc (.cells #[.slice (some ⟨w.heap.size,0,none⟩) n n,.slice (some ⟨w.heap.size+1,0,none⟩) n n] t2);have h2:=ja.make ((w.alloc (.cells (jR a).toArray t1)).alloc (.cells (jR b).toArray t1)) t2 [.slice (some ⟨w.heap.size,0,none⟩) n n,.slice (some ⟨w.heap.size+1,0,none⟩) n n];simp only[World.size_alloc] at h1 h2;exact ku.two (h2.slW 2 rfl (by decide)) (h0.slW n (by rw[xr,ha]) (by omega)) (h1.slW n (by rw[xr,hb]) (by omega))
theorem Nx (w:World) (t1 t2:TypeId) (a:List jB) (n:Nat) (ha:a.length=n) (hn:n≤100):
  ku ((w.alloc (.cells (jR a).toArray t1)).alloc (.cells #[.slice (some ⟨w.heap.size,0,none⟩) n n] t2)) (.slice (some ⟨w.heap.size+1,0,none⟩) 1 1) [a]:=by
 have h0:=(ja.make w t1 (jR a)).alloc (.cells #[.slice (some ⟨w.heap.size,0,none⟩) n n] t2);have h2:=ja.make (w.alloc (.cells (jR a).toArray t1)) t2 [.slice (some ⟨w.heap.size,0,none⟩) n n];simp only[World.size_alloc] at h2;exact ku.one (h2.slW 1 rfl (by decide)) (h0.slW n (by rw[xr,ha]) (by omega))
theorem VH (w:World) (t1 t2:TypeId) (a b:List Int) (n m:Nat) (ha:a.length=n) (hb:b.length=m) (hn:n≤100) (hm:m≤100):
  yV (((w.alloc (.cells (jc a).toArray t1)).alloc (.cells (jc b).toArray t1)).alloc (.cells #[.slice (some ⟨w.heap.size,0,none⟩) n n,.slice (some ⟨w.heap.size+1,0,none⟩) m m] t2)) (.slice (some ⟨w.heap.size+1+1,0,none⟩) 2 2) [a,b]:=by
 have h0:=((ja.make w t1 (jc a)).alloc (.cells (jc b).toArray t1)).alloc (.cells #[.slice (some ⟨w.heap.size,0,none⟩) n n,.slice (some ⟨w.heap.size+1,0,none⟩) m m] t2);have h1:=(ja.make (w.alloc (.cells (jc a).toArray t1)) t1 (jc b)).alloc (.cells #[.slice (some ⟨w.heap.size,0,none⟩) n n,.slice (some ⟨w.heap.size+1,0,none⟩) m m] t2);have h2:=ja.make ((w.alloc (.cells (jc a).toArray t1)).alloc (.cells (jc b).toArray t1)) t2 [.slice (some ⟨w.heap.size,0,none⟩) n n,.slice (some ⟨w.heap.size+1,0,none⟩) m m];simp only[World.size_alloc] at h1 h2;exact yV.two (h2.sl 2 rfl (by decide)) (h0.sl n (by rw[jQ,ha]) (by omega)) (h1.sl m (by rw[jQ,hb]) (by omega))
theorem yV.wide {w:World} {v:Value} {M:List (List Int)} (h:yV w v M):qE w v M:=by
 obtain⟨vs,h1,h2,h3⟩:=h;exact⟨vs,h1.wide,h2,fun i r hr=>by obtain⟨u,hu,hs⟩:=h3 i r hr;exact⟨u,hu,hs.wide⟩⟩
theorem Ny (w:World) (t1 t2:TypeId) (a:List Int) (n:Nat) (ha:a.length=n) (hn:n≤100):
  qE ((w.alloc (.cells (jc a).toArray t1)).alloc (.cells #[.slice (some ⟨w.heap.size,0,none⟩) n n] t2)) (.slice (some ⟨w.heap.size+1,0,none⟩) 1 1) [a]:=by
 have h0:=(ja.make w t1 (jc a)).alloc (.cells #[.slice (some ⟨w.heap.size,0,none⟩) n n] t2);have h2:=ja.make (w.alloc (.cells (jc a).toArray t1)) t2 [.slice (some ⟨w.heap.size,0,none⟩) n n];simp only[World.size_alloc] at h2;exact qE.one (h2.slW 1 rfl (by decide)) (h0.slW n (by rw[jQ,ha]) (by omega))
theorem Xg (w:World) (t1:TypeId) (a:List Int) (n:Nat) (ha:a.length=n) (hn:n≤100):
  Sl (w.alloc (.cells (jc a).toArray t1)) 1 (.slice (some ⟨w.heap.size,0,none⟩) n n) (jc a):=(ja.make w t1 (jc a)).sl n (by rw[jQ,ha]) (by omega)
theorem VI (w:World) (t1:TypeId) (a:List jB) (n:Nat) (ha:a.length=n) (hn:n≤100):
  jE (w.alloc (.cells (jR a).toArray t1)) (.slice (some ⟨w.heap.size,0,none⟩) n n) (jR a):=(ja.make w t1 (jR a)).slW n (by rw[xr,ha]) (by omega)
theorem ku.more {w:World} {v:Value} {M:List (List jB)} (h:ku w v M) (o:Obj):ku (w.alloc o) v M:=h.below ((Below.refl _ _).alloc (Nat.le_refl _) _)
theorem jE.more {w:World} {v:Value} {xs:List Value} (h:jE w v xs) (o:Obj):jE (w.alloc o) v xs:=h.below ((Below.refl _ _).alloc (Nat.le_refl _) _)
theorem Y0 (w:World) (g:Nat) (hg:w.heap.size=g) (t1:TypeId) (a:List jB) (n:Nat) (ha:a.length=n) (hn:n≤100):
  jE (w.alloc (.cells (jR a).toArray t1)) (.slice (some ⟨g,0,none⟩) n n) (jR a):=by subst hg;exact VI w t1 a n ha hn
theorem Gx (w:World) (a b c:Obj):(((w.alloc a).alloc b).alloc c).heap.size=w.heap.size+1+1+1:=by simp
theorem CH (w:World) (a b c d:Obj):((((w.alloc a).alloc b).alloc c).alloc d).heap.size=w.heap.size+1+1+1+1:=by simp
theorem qE.more {w:World} {v:Value} {M:List (List Int)} (h:qE w v M) (o:Obj):qE (w.alloc o) v M:=h.below ((Below.refl _ _).alloc (Nat.le_refl _) _)
theorem qg (w:World) (hG:jH w):Calls Tryz.prog 15 #[] w fun e w'=>e = .returned (.bool true)∧Below w.heap.size w w':=by
 have HG:=hid hG;clear hG;go_enter Tryz.func15,Tryz.ntmps15
 go_wp2_with fail
 refine(EP _ HG.out).mono ?_;rintro e w1 ⟨rfl,hB⟩;have HB1:=hid hB;clear hB
 go_wp2_with fail
 refine(EK _).mono ?_;rintro e w2 ⟨rfl,hB⟩;have HB2:=hid (bT HB1.out hB);clear hB HB1
 go_wp2_with fail
 refine(EM _).mono ?_;rintro e w3 ⟨rfl,hB⟩;have HB3:=hid (bT HB2.out hB);clear hB HB2
 go_wp2_with fail
 have HP:=hid (Xg w3 3 pA 5 rfl (by decide));refine(EH _ _ HP.out).mono ?_;rintro e w4 ⟨⟨vc,rfl,hvc⟩,hB⟩;have HC:=hid hvc;have HP4:=hid (HP.out.below hB);have HB4:=hid (bT (bA HB3.out _) hB);clear hB HB3 HP hvc
 go_wp2_with fail
 refine(EU _ _ HP4.out).mono ?_;rintro e w5 ⟨rfl,hB⟩;have HP5:=hid (HP4.out.below hB);have HB5:=hid (bT HB4.out hB);have S5:=hid hB;clear hB HB4 HP4
 go_wp2_with fail
 refine(ER _ _ HP5.out).mono ?_;rintro e w6 ⟨⟨vq,rfl,hvq⟩,hB⟩;have HQ:=hid hvq;have HB6:=hid (bT HB5.out hB);have S6:=hid (bT S5.out hB);clear hB HB5 HP5 S5 hvq
 go_wp2_with fail
 refine(ES _ _ (Xg w6 3 [2,0,1] 3 rfl (by decide)) (HG.out.below (bA HB6.out _))).mono ?_;rintro e w7 ⟨rfl,hB⟩;have HB7:=hid (bT (bA HB6.out _) hB);have R7:=hid (bT (bA (Below.refl _ w6) _) hB);clear hB HB6
 go_wp2_with fail
 refine(EW _ (HG.out.below HB7.out)).mono ?_;rintro e w8 ⟨⟨vu,rfl,hvu⟩,hB⟩;have HU:=hid hvu;have HB8:=hid (bT HB7.out hB);have R8:=hid (bT R7.out hB);clear hB HB7 R7 hvu
 go_wp2_with fail
 refine(EO _ _ (Xh w8 _ _ [[49],[50],[51]] [[50],[52],[55]] 3 rfl rfl (by decide)) (HG.out.below (bA (bA (bA HB8.out _) _) _))).mono ?_;rintro e w9 ⟨⟨vk,rfl,hvk⟩,hB⟩;have HK:=hid hvk;have HB9:=hid (bT (bA (bA (bA HB8.out _) _) _) hB);have R9:=hid (bT (bA (bA (bA (Below.refl _ w8) _) _) _) hB);clear hB HB8 hvk
 go_wp2_with fail
 refine(EV _ _ _ ((Xh w9 _ _ [[49],[50],[51]] [[50],[52],[55]] 3 rfl rfl (by decide)).more _) (Y0 _ _ (Gx _ _ _ _) _ [[52],[57]] 2 rfl (by decide)) (HG.out.below (bA (bA (bA (bA HB9.out _) _) _) _))).mono ?_;rintro e w10 ⟨⟨vx,rfl,hvx⟩,hB⟩;have HX:=hid hvx;have HB10:=hid (bT (bA (bA (bA (bA HB9.out _) _) _) _) hB);have R10:=hid (bT (bA (bA (bA (bA (Below.refl _ w9) _) _) _) _) hB);clear hB HB9 hvx
 go_wp2_with fail
 refine(EJ _ _ (Xh w10 _ _ [[49],[50]] [[51],[52]] 2 rfl rfl (by decide)) (HG.out.below (bA (bA (bA HB10.out _) _) _))).mono ?_;rintro e w11 ⟨rfl,hB⟩;have HB11:=hid (bT (bA (bA (bA HB10.out _) _) _) hB);have R11:=hid (bT (bA (bA (bA (Below.refl _ w10) _) _) _) hB);clear hB HB10
 go_wp2_with fail
 refine(EN _ _ (VH w11 _ _ [1,2] [3,4] 2 2 rfl rfl (by decide) (by decide))).mono ?_;rintro e w12 ⟨⟨vm,rfl,hvm⟩,hB⟩;have HM:=hid hvm;have HB12:=hid (bT (bA (bA (bA HB11.out _) _) _) hB);have R12:=hid (bT (bA (bA (bA (Below.refl _ w11) _) _) _) hB);clear hB HB11 hvm
 go_wp2_with fail
 have K12:=hid (bT (bT (bT R9.out R10.out) R11.out) R12.out);refine(Ut [[0,1,2],[3,4]] _ _ _ ((((HC.out.below (bT (bT S6.out R8.out) K12.out)).more _).more _).more _) (VH w12 _ _ [0,1,2] [3,4] 3 2 rfl rfl (by decide) (by decide)).wide).mono ?_;rintro e w13 ⟨rfl,hB⟩;have HB13:=hid (bT (bA (bA (bA HB12.out _) _) _) hB);have R13:=hid (bT (bA (bA (bA (Below.refl _ w12) _) _) _) hB);clear hB HB12 HC
 go_wp2_with fail
 refine(Us [2,0,1,3,4] _ _ _ ((HQ.out.below (bT (bT R8.out K12.out) R13.out)).more _) (Xg w13 _ [2,0,1,3,4] 5 rfl (by decide)).wide).mono ?_;rintro e w14 ⟨rfl,hB⟩;have HB14:=hid (bT (bA HB13.out _) hB);have R14:=hid (bT R13.out (bT (bA (Below.refl _ w13) _) hB));clear hB HB13 HQ R13
 go_wp2_with fail
 refine(Us [3,2,1,0] _ _ _ ((HU.out.below (bT K12.out R14.out)).more _) (Xg w14 _ [3,2,1,0] 4 rfl (by decide)).wide).mono ?_;rintro e w15 ⟨rfl,hB⟩;have HB15:=hid (bT (bA HB14.out _) hB);have R15:=hid (bT R14.out (bT (bA (Below.refl _ w14) _) hB));clear hB HB14 HU R14
 go_wp2_with fail
 refine(Ut [[0,1]] _ _ _ (((HM.out.below R15.out).more _).more _) (Ny w15 _ _ [0,1] 2 rfl (by decide))).mono ?_;rintro e w16 ⟨rfl,hB⟩;have HB16:=hid (bT (bA (bA HB15.out _) _) hB);have R16:=hid (bT R15.out (bT (bA (bA (Below.refl _ w15) _) _) hB));clear hB HB15 HM R15
 go_wp2_with fail
 refine(ET _ _ _ _ (((Xh w16 _ _ [[49],[49]] [[50],[50]] 2 rfl rfl (by decide)).more _).more _) ((Y0 _ _ (Gx _ _ _ _) _ [[49],[51]] 2 rfl (by decide)).more _) (Y0 _ _ (CH _ _ _ _ _) _ [[45,50],[49]] 2 rfl (by decide)) (HG.out.below (bA (bA (bA (bA (bA HB16.out _) _) _) _) _))).mono ?_;rintro e w17 ⟨rfl,hB⟩;have HB17:=hid (bT (bA (bA (bA (bA (bA HB16.out _) _) _) _) _) hB);have R17:=hid (bT R16.out (bT (bA (bA (bA (bA (bA (Below.refl _ w16) _) _) _) _) _) hB));clear hB HB16 R16
 go_wp2_with fail
 refine(EZ [[[49],[45,49,47,50],[48]]] _ _ _ (((HK.out.below (bT (bT (bT R10.out R11.out) R12.out) R17.out)).more _).more _) (Nx w17 _ _ [[49],[45,49,47,50],[48]] 3 rfl (by decide))).mono ?_;rintro e w18 ⟨rfl,hB⟩;have HB18:=hid (bT (bA (bA HB17.out _) _) hB);have R18:=hid (bT R17.out (bT (bA (bA (Below.refl _ w17) _) _) hB));clear hB HB17 HK R17
 go_wp2_with fail
 refine(E0 [[49],[48],[49]] _ _ _ ((HX.out.below (bT (bT R11.out R12.out) R18.out)).more _) (VI w18 _ [[49],[48],[49]] 3 rfl (by decide))).mono ?_;rintro e w19 ⟨rfl,hB⟩;have HB19:=hid (bT (bA HB18.out _) hB);clear hB HB18 HX R18
 go_wp2_with fail
 refine(EX _).mono ?_;rintro e w20 ⟨rfl,hB⟩;have HB20:=hid (bT HB19.out hB);clear hB HB19
 go_wp2_with fail
 refine(EY _).mono ?_;rintro e w21 ⟨rfl,hB⟩;have HB21:=hid (bT HB20.out hB);clear hB HB20
 go_wp2
 go_ret;exact⟨rfl,HB21.out⟩
theorem xG (bad:Int) (l:List UInt8) (w:World) (hb:bad≠0):
  Calls Tryz.prog 24 #[.string ⟨#[]⟩,.int .i64 bad,.int .i64 bad,.string ⟨l.toArray⟩] w fun e w'=>e = .returned (.bool true)∧w=w':=by
 have h1:(bad==0)=false:=by simpa using hb
 have h2:(bad != 0)=true:=by simpa using hb
 obtain⟨s,hs⟩:∃s:ByteArray,s=⟨l.toArray⟩:=⟨_,rfl⟩
 rw[←hs];clear hs hb;go_enter Tryz.func24,Tryz.ntmps24
 go_wp2
 go_ret;exact⟨by simp,rfl⟩
theorem Jz (l:List UInt8) (w:World) (hl:l.length≤4000000000000000000) (hL:xY l=0):
  Calls Tryz.prog 24 #[.string ⟨l.toArray⟩,.int .i64 0,.int .i64 0,.string ⟨l.toArray⟩] w fun e w'=>e = .returned (.bool true)∧w=w':=by
 have LG:=hid (BP l w hl);rw[hL] at LG
 obtain⟨s,hs⟩:∃s:ByteArray,s=⟨l.toArray⟩:=⟨_,rfl⟩
 rw[←hs] at LG ⊢;clear hs hL hl;go_enter Tryz.func24,Tryz.ntmps24
 go_wp2_with fail
 refine LG.out.mono ?_;rintro e w1 ⟨rfl,rfl⟩
 go_wp2
 go_ret;exact⟨by simp,rfl⟩
theorem xf (bad:Int) (v:Value) (w:World) (h:bad≠0):
  Calls Tryz.prog 51 #[.slice none 0 0,.int .i64 bad,.int .i64 bad,v] w fun e w'=>e = .returned (.bool true)∧Below w.heap.size w w':=by
 have hb:(bad != 0)=true:=by simpa using h
 clear h;go_enter Tryz.func51,Tryz.ntmps51
 go_wp2
 go_ret;exact⟨rfl,Below.refl _ _⟩
theorem YZ (L:List Int) (v u:Value) (w:World) (hv:jE w v (jc L)) (hu:jE w u (jc L)):
  Calls Tryz.prog 51 #[v,.int .i64 0,.int .i64 0,u] w fun e w'=>e = .returned (.bool true)∧Below w.heap.size w w':=by
 have SI:=hid (Zw v u L L w hv hu);clear hv hu;go_enter Tryz.func51,Tryz.ntmps51
 go_wp2_with fail
 refine SI.out.mono ?_;rintro e w' ⟨rfl,hB⟩;have HB:=hid hB;clear hB SI
 go_wp2
 go_ret;exact⟨by simp,HB.out⟩
theorem JM (b:Bool) (e:Int) (w:World):
  Calls Tryz.prog 41 #[.bool b,.int .i64 e] w fun r w'=>r = .returned (.int .i64 (if b=true then e else 0))∧w=w':=by
 cases b
 ·go_enter Tryz.func41,Tryz.ntmps41
  go_wp2
  go_ret;exact⟨rfl,rfl⟩
 ·go_enter Tryz.func41,Tryz.ntmps41
  go_wp2
  go_ret;exact⟨rfl,rfl⟩
def xa:List Int→Int
 | []=>0
 | x::l=>if x=0 then xa l else x
theorem Tj {L:List Int} {k:Nat} (hk:k<L.length) (h:xa (L.drop k)=xa L):xa L=if L[k]?.getD 0=0 then xa (L.drop (k+1)) else L[k]?.getD 0:=by
 rw[←h,List.drop_eq_getElem_cons hk,xa,List.getElem?_eq_getElem hk];rfl
theorem Nv (v:Value) (L:List Int) (w:World) (hv:Sl w 1 v (jc L)):
  Calls Tryz.prog 23 #[v] w fun e w'=>e = .returned (.int .i64 (xa L))∧Below w.heap.size w w':=by
 obtain⟨A,c,rfl,hc1,hc2⟩:=hv.form;simp only[jQ] at hc1 hv ⊢;have HV:=hid hv;clear hv
 obtain⟨r,hr⟩:∃r,xa L=r:=⟨_,rfl⟩
 have HR:=hid hr;rw[hr];clear hr;go_enter Tryz.func23,Tryz.ntmps23
 go_wp2_with fail
 go_loopg [3] L.length (fun g i wr=>∃(k:Nat),k+g=L.length∧i = .int .i64 k∧Hid (xa (L.drop k)=xa L)∧Below w.heap.size w wr)
 case atStart=>exact⟨0,by omega,rfl,hid rfl,Below.refl _ _⟩
 case round=>
  obtain⟨k,hk,rfl,hD,hB⟩:=hrel
  cases gk with
  | zero=>
   have hin:¬((k:Int)<(L.length:Int)):=by omega
   have HT:Hid (r=0):=hid (by rw[←HR.out,←hD.out,List.drop_eq_nil_of_le (by omega)];rfl);clear hk
   go_wp2
   go_ret;exact⟨by rw[HT.out];rfl,hB⟩
  | succ g=>
   have hlt:(k:Int)<(L.length:Int):=by omega
   have hkl:k<L.length:=by omega
   obtain⟨b1,off1,rfl,hbb1,hcell1⟩:=HV.out.at_ (k:=k) (by rw[jQ];omega);have hck:=(hB.cell (p:=⟨b1,off1+k,none⟩) hbb1).trans ((hcell1 k (by rw[jQ];omega)).trans (kh L k hkl));have HS:=hid (Tj hkl hD.out);have HK:=hid hk;clear hcell1 hk;generalize L[k]?.getD 0=x at *;by_cases hx:x=0
   ·have HD:Hid (xa (L.drop (k+1))=xa L):=hid (by have:=HS.out;rw[if_pos hx] at this;exact this.symm)
    have hb:(x != 0)=false:=by simpa using hx
    clear hx HS
    go_wp2
    go_roundg g
    case rel=>exact⟨k+1,by have:=HK.out;omega,by go_num,HD,hB⟩
    case measure=>omega
   ·have HX:Hid (r=x):=hid (by rw[←HR.out,HS.out,if_neg hx])
    have hb:(x != 0)=true:=by simpa using hx
    clear hx HS
    go_wp2
    go_ret;exact⟨by rw[HX.out];rfl,hB⟩
theorem CO (q:Rat):xK (jg q)=(if q.num<0 then [45] else [])++decDigits q.num.natAbs∧yN (jg q)=(if q.den=1 then [49] else decDigits q.den):=by
 have hd:jW (decDigits q.num.natAbs):=qw _
 have hs:jk (jg q)=((if q.num<0 then [45] else [])++decDigits q.num.natAbs:List UInt8).length:=by
  unfold jg;by_cases h1:q.num<0
  ·rw[if_pos h1]
   show jk (45::(decDigits q.num.natAbs++_))=_
   have e:∀r:List UInt8,jk (45::r)=jk r+1:=fun r=>by unfold jk;rw[List.findIdx_cons];simp
   rw[e];by_cases h2:q.den=1
   ·rw[if_pos h2,List.append_nil,Qm hd];simp
   ·rw[if_neg h2,XI hd];simp
  ·rw[if_neg h1]
   simp only[List.nil_append];by_cases h2:q.den=1
   ·rw[if_pos h2,List.append_nil,Qm hd]
   ·rw[if_neg h2,XI hd]
 unfold xK yN;rw[hs];constructor
 ·unfold jg;rw[List.take_left'];rfl
 ·by_cases h2:q.den=1
  ·rw[if_pos h2,if_pos];unfold jg;rw[if_pos h2,List.append_nil]
  ·rw[if_neg h2,if_neg]
   ·unfold jg
    rw[if_neg h2,List.drop_append];simp
   ·unfold jg;rw[if_neg h2];simp
theorem Eo (n:Nat) (neg:Prop) [Decidable neg]:(xu ((if neg then [45] else [])++decDigits n)).length=(decDigits n).length:=by
 have hd:jW (decDigits n):=qw _;by_cases h1:neg
 ·rw[if_pos h1]
  have:kP ([45]++decDigits n) = -1:=by
   unfold kP;rw[if_neg (by simp),if_pos (by simp)]
  unfold xu;rw[this,if_pos (by decide)]
  simp
 ·rw[if_neg h1,List.nil_append]
  unfold xu
  have:¬kP (decDigits n)<0:=by
   unfold kP;split
   ·omega
   ·rw[if_neg];omega
    intro hc;have hm:=hd 45 (List.mem_of_getElem? hc);revert hm;decide
  rw[if_neg this]
theorem Nr (q:Rat):xY (jg q)=if 600<(decDigits q.num.natAbs).length∨600<(decDigits q.den).length then 4 else 0:=by
 obtain⟨h1,h2⟩:=CO q;unfold xY;rw[h1,Eo,h2]
 congr 1
 by_cases h:q.den=1
 ·rw[if_pos h,h,decDigits_one (by decide:(1:Nat)<10)];rfl
 ·rw[if_neg h]
theorem je {w a b:World} (h:Below w.heap.size w a) (k:Below a.heap.size a b):Hid (Below w.heap.size w b):=hid (h.trans (k.mono h.size))
theorem Xq (n:Nat):ql n:= .inr UT
theorem Be (l:List UInt8) (h:(jn l).1≠0):(jn l).2=0:=by
 revert h;unfold jn Kk
 repeat' split
 all_goals first
  | (intro _;rfl)
  | (intro h;exact absurd rfl h)
theorem Xw (l:List UInt8) (h:(jn l).1=0) (hl:l.length≤60):jg (jn l).2=l∧(jn l).2.num.natAbs<10^60∧(jn l).2.den<10^60:=by
 obtain⟨t,_,_⟩:=WU l h;refine⟨t,?_,?_⟩
 ·have h1:(decDigits (jn l).2.num.natAbs).length≤60:=by
   have:=congrArg List.length t;unfold jg at this;rw[List.length_append,List.length_append] at this;omega
  have h2:=qG (qw (jn l).2.num.natAbs);rw[y4] at h2;exact Nat.lt_of_lt_of_le h2 (Nat.pow_le_pow_right (by decide) h1)
 ·by_cases hd:(jn l).2.den=1
  ·rw[hd];decide
  ·have h1:(decDigits (jn l).2.den).length≤60:=by
    have:=congrArg List.length t;unfold jg at this;rw[List.length_append,List.length_append,if_neg hd,List.length_cons] at this;omega
   have h2:=qG (qw (jn l).2.den);rw[y4] at h2;exact Nat.lt_of_lt_of_le h2 (Nat.pow_le_pow_right (by decide) h1)
theorem QJ {q:Rat} (h1:q.num.natAbs<10^60) (h2:q.den<10^60):ks q:=by
 have h3:10^60≤10^(9*7):=Nat.pow_le_pow_right (by decide) (by decide);rw[Nat.pow_mul] at h3;have h4:(10^9)^7≤(10^9)^j4:=Nat.pow_le_pow_right (by decide) (by unfold j4;decide);exact⟨Nat.lt_of_lt_of_le h1 (Nat.le_trans h3 h4),Nat.lt_of_lt_of_le h2 (Nat.le_trans h3 h4)⟩
theorem Cz {q:Rat} (h1:q.num.natAbs<10^130) (h2:q.den<10^130):¬kQ q∧(jg q).length≤4000000000000000000∧xY (jg q)=0:=by
 have b1:=zC 129 q.num.natAbs h1;have b2:=zC 129 q.den h2;refine⟨by unfold kQ;omega,?_,?_⟩
 ·unfold jg
  rw[List.length_append,List.length_append,decDigits_length]
  have:(if q.den=1 then ([]:List UInt8) else 47::decDigits q.den).length≤131:=by
   split
   ·simp
   ·rw[List.length_cons,decDigits_length];omega
  have:(if q.num<0 then ([45]:List UInt8) else []).length≤1:=by split <;> simp
  omega
 ·rw[Nr,decDigits_length,decDigits_length,if_neg (by omega)]
section
variable {p q:Rat} (p1:p.num.natAbs<10^60) (p2:p.den<10^60) (q1:q.num.natAbs<10^60) (q2:q.den<10^60)
include p1 p2 q1 q2
end
theorem qx (x y:Int) (w:World):Calls Tryz.prog 23 #[.slice (some ⟨w.heap.size,0,none⟩) 2 2] (w.alloc (.cells #[.int .i64 x,.int .i64 y] 3)) fun e w'=>e = .returned (.int .i64 (xT x y))∧Below (w.alloc (.cells #[.int .i64 x,.int .i64 y] 3)).heap.size (w.alloc (.cells #[.int .i64 x,.int .i64 y] 3)) w':=by
 have h:=Nv _ [x,y] _ (Sl.lit w 3 #[.int .i64 x,.int .i64 y] 2 rfl (by omega))
 have e:xa [x,y]=xT x y:=by
  unfold xa xa xa xT;by_cases h:x=0
  ·rw[if_pos h,if_pos h];split <;> omega
  ·rw[if_neg h,if_neg h]
 rw[e] at h;exact h
def GF (l:List UInt8) (k:Int) (w:World) (e:Ending) (w':World):Prop:=e = .returned (.tuple #[.string ⟨l.toArray⟩,.int .i64 k])∧Below w.heap.size w w'
theorem Ai:10^90≤B9^j4:=by
 have h1:10^90=(10^9)^10:=by rw[←Nat.pow_mul]
 rw[h1];exact Nat.pow_le_pow_right (by decide) (by unfold j4;decide)
theorem qP {x:Nat} (h:x<10^90):x<B9^j4:=Nat.lt_of_lt_of_le h Ai
theorem K4 {x:Nat} (h:x≤1000000):x<10^90:=Nat.lt_of_le_of_lt h (by decide)
theorem Dy:1<B9^j4:=qP (K4 (by decide))
theorem yH {n:Nat} (h:n<B9^j4):ks ((n:Int):Rat):=⟨h,Dy⟩
theorem Mq (a b:Nat) (w:World) (ha:a<B9^j4) (hb:b<B9^j4):
  Calls Tryz.prog 26 #[.string ⟨(decDigits a).toArray⟩,.string ⟨(decDigits b).toArray⟩] w (kn (decDigits (a+b)) w):=by
 have h:=Z6 ((a:Int):Rat) ((b:Int):Rat) w (yH ha) (yH hb);rw[←Rat.intCast_add,←Int.natCast_add,qO,qO,qO] at h;exact h
theorem X9 (a b:Nat) (w:World) (ha:a<B9^j4) (hb:b<B9^j4):
  Calls Tryz.prog 28 #[.string ⟨(decDigits a).toArray⟩,.string ⟨(decDigits b).toArray⟩] w (kn (decDigits (a*b)) w):=by
 have h:=Uc ((a:Int):Rat) ((b:Int):Rat) w (yH ha) (yH hb);rw[←Rat.intCast_mul,←Int.natCast_mul,qO,qO,qO] at h;exact h
theorem M5 (a b:Nat) (w:World) (ha:a<B9^j4) (hb:b<B9^j4) (hle:b≤a):
  Calls Tryz.prog 27 #[.string ⟨(decDigits a).toArray⟩,.string ⟨(decDigits b).toArray⟩] w (kn (decDigits (a-b)) w):=by
 have h:=Uh ((a:Int):Rat) ((b:Int):Rat) w (yH ha) (yH hb)
 have e:(a:Int)-(b:Int)=((a-b:Nat):Int):=by omega
 rw[←Rat.intCast_sub,e,qO,qO,qO] at h;exact h
theorem Ah:30^30<10^90:=by decide
theorem Tb (n:Nat):jw n≤30^n∨30<n:=by
 induction n with
 | zero=>left;decide
 | succ n ih=>
  rcases ih with h | h
  ·rcases Nat.lt_or_ge 30 (n+1) with h2 | h2
   ·exact .inr h2
   ·left
    rw[jw,Nat.pow_succ,Nat.mul_comm];exact Nat.mul_le_mul h h2
  ·right;omega
theorem KN {n:Nat} (h:n≤30):jw n<10^90:=by
 have h1:jw n≤jw 30:=Ta h;rcases Tb 30 with h2 | h2
 ·exact Nat.lt_of_le_of_lt h1 (Nat.lt_of_le_of_lt h2 Ah)
 ·omega
theorem X8 (n:Nat) (w:World) (hn:n≤30):
  Calls Tryz.prog 63 #[.int .i64 n] w (kn (decDigits (jw n)) w):=by
 have HN:=hid hn
 have hn12:(n:Int)≤30:=by omega
 clear hn;go_enter Tryz.func63,Tryz.ntmps63
 go_wp2
 go_loopg [3,4] (n+1) (fun g s i wr=>∃k:Nat,i = .int .i64 ((k:Int)+1)∧1≤k∧k≤30∧g+k=n+2∧Hid (s = .string ⟨(decDigits (jw k)).toArray⟩)∧Hid (jw n=jw k∨k<n)∧Below w.heap.size w wr)
 case atStart=>
  refine⟨1,rfl,Nat.le_refl _,by decide,by omega,hid (by rw[show jw 1=1 from rfl,decDigits_one (by decide)];rfl),hid ?_,Below.refl _ _⟩;rcases Nat.lt_or_ge 1 n with h | h
  ·exact .inr h
  ·left
   rcases Nat.le_one_iff_eq_zero_or_eq_one.1 h with h1 | h1 <;> subst h1 <;> rfl
 case round=>
  obtain⟨k,rfl,h1,h12,hg,hs,hk,hB⟩:=hrel;by_cases hc:k<n
  ·have hc':((k:Int)+1≤(n:Int)):=by omega
   have FN:=hid (fun w=>QB (k+1) w (by omega));have HS:Hid (jw (k+1)=jw k*(k+1)):=hid (by rw[jw,Nat.mul_comm]);have MU:=hid (fun w=>X9 (jw k) (k+1) w (qP (KN h12)) (qP (K4 (by omega))));rw[←HS.out] at MU
   have HK:Hid (jw n=jw (k+1)∨k+1<n):=hid (by
    rcases Nat.lt_or_ge (k+1) n with h | h
    ·exact .inr h
    ·left;rw[show n=k+1 from by omega])
   have hs2:=hs.out;subst hs2;clear hs hk HS
   have hkn:k+1≤30:=by have:=HN.out;omega
   obtain⟨gj,rfl⟩:∃gj,gk=gj+1:=⟨gk-1,by omega⟩
   generalize decDigits (jw k)=t1 at *
   go_wp2_with fail
   refine(FN.out _).mono ?_;rintro e w1 ⟨rfl,hB1⟩
   go_wp2_with fail
   refine(MU.out _).mono ?_;rintro e w2 ⟨rfl,hB2⟩;have HB3:=hid (hB.trans ((hB1.mono hB.size).trans (hB2.mono (Nat.le_trans hB.size hB1.size))));clear hB1 hB2 hB
   go_wp2
   go_roundg gj
   case rel=>exact⟨k+1,by go_num,by omega,hkn,by omega,hid rfl,HK,HB3.out⟩
   case measure=>omega
  ·have hc':¬((k:Int)+1≤(n:Int)):=by omega
   have HE:Hid (jw n=jw k):=hid (by rcases hk.out with h | h;exact h;exact absurd h hc);have hs2:=hs.out;subst hs2;clear hs hk hg
   go_wp2
   go_ret;exact⟨by rw[HE.out];rfl,hB⟩
theorem JF (v:Value) (p:List Int) (w:World) (hv:Sl w 1 v (jc p)) (hl:p.length≤30):
  Calls Tryz.prog 60 #[v] w (kn (decDigits (ka p p.length)) w):=by
 obtain⟨A,c,rfl,hc1,hc2⟩:=hv.form;simp only[jQ] at *;have HV:=hid hv;have HLN:=hid hl
 have hlI:(p.length:Int)≤30:=by omega
 clear hv;go_enter Tryz.func60,Tryz.ntmps60
 go_wp2_with fail
 go_loopg [3,4,5,6] p.length (fun gh s i _ _ wr=>∃k:Nat,k+gh=p.length∧i = .int .i64 k∧Hid (s = .string ⟨(decDigits (ka p k)).toArray⟩)∧Hid (Below w.heap.size w wr))
 case atStart=>exact⟨0,by omega,rfl,hid (by rw[show ka p 0=0 from rfl,decDigits_one (by decide)];rfl),hid (Below.refl _ _)⟩
 case round=>
  obtain⟨k,hk,rfl,hs,hB⟩:=hrel
  cases gk with
  | zero=>
   have hkn:k=p.length:=by omega
   subst hkn
   have hin:¬((p.length:Int)<(p.length:Int)):=by omega
   have hs2:=hs.out;subst hs2;clear hs hk
   go_wp2
   go_ret;exact⟨rfl,hB.out⟩
  | succ gh=>
   have hkl:k<p.length:=by omega
   have hin:((k:Int)<(p.length:Int)):=by omega
   have hs2:=hs.out;subst hs2;have HK:=hid hk;obtain⟨b0,off,rfl,hb0,hcell⟩:=HV.out.at_ (k:=k) (by rw[jQ];exact hkl);have HC:=hid hcell;clear hs hk hcell
   go_wp2_with fail
   obtain⟨wo,rfl⟩:∃wo:World,wo=wr:=⟨_,rfl⟩
   go_loopg [5,6] (p.length-k-1) (fun gh2 ls kx wx=>∃m:Nat,ls = .int .i64 ((kO p k m:Nat):Int)∧kx = .int .i64 ((k:Int)+1+(m:Int))∧m+gh2=p.length-k-1∧Hid (Below w.heap.size w wx))
   case atStart=>exact⟨0,by rw[show kO p k 0=0 from by unfold kO;simp];rfl,by go_num,by omega,hB⟩
   case round=>
    obtain⟨m,rfl,rfl,hm,hBx⟩:=hrel
    cases gk with
    | zero=>
     have hin2:¬((k:Int)+1+(m:Int)<(p.length:Int)):=by omega
     have hmm:m=p.length-k-1:=by omega
     have HR:Hid (ka p (k+1)=ka p k*(p.length-k)+kO p k m):=hid (by rw[hmm];rfl)
     have hlk:kO p k m≤30:=by have:=Ka p k m;omega
     have hr90:ka p k<10^90:=Nat.lt_of_lt_of_le (Qf p (by omega) k) (Nat.pow_le_pow_right (by decide) (by omega))
     have hr90':ka p k*(p.length-k)<B9^j4:=by
      have h1:=Qf p (by omega) k;have h2:10^(3*k)≤10^87:=Nat.pow_le_pow_right (by decide) (by omega);have h3:ka p k*(p.length-k)≤ka p k*1000:=Nat.mul_le_mul_left _ (by omega)
      have h4:10^87*1000=10^90:=by rw[show (1000:Nat)=10^3 from rfl,←Nat.pow_add]
      refine qP (Nat.lt_of_le_of_lt h3 ?_);rw[←h4];exact Nat.mul_lt_mul_of_pos_right (Nat.lt_of_lt_of_le h1 h2) (by decide)
     have F1:=hid (fun W=>QB (p.length-k) W (by omega))
     have e1:((p.length-k:Nat):Int)=(p.length:Int)-(k:Int):=by omega
     rw[e1] at F1;have MU:=hid (fun W=>X9 (ka p k) (p.length-k) W (qP hr90) (qP (K4 (by omega))));have F2:=hid (fun W=>QB (kO p k m) W (by omega));have AD:=hid (fun W=>Mq (ka p k*(p.length-k)) (kO p k m) W hr90' (qP (K4 (by omega))));rw[←HR.out] at AD;generalize kO p k m=ls at *
     obtain⟨t4,ht4⟩:∃t4,decDigits (ka p (k+1))=t4:=⟨_,rfl⟩
     rw[ht4] at AD;have HT4:=hid ht4;clear ht4;generalize decDigits (ka p k*(p.length-k))=t3 at *;generalize decDigits (ka p k)=t1 at *;generalize decDigits (p.length-k)=t2 at *;have HM:=hid hm;clear hr90 hr90' e1 hm hmm hB HR
     go_wp2_with fail
     refine(F1.out _).mono ?_;rintro e w1 ⟨rfl,hB1⟩;have HB1:=hid (hBx.out.trans (hB1.mono hBx.out.size));clear hB1
     go_wp2_with fail
     refine(MU.out _).mono ?_;rintro e w2 ⟨rfl,hB2⟩;have HB2:=hid (HB1.out.trans (hB2.mono HB1.out.size));clear hB2
     go_wp2_with fail
     refine(F2.out _).mono ?_;rintro e w3 ⟨rfl,hB3⟩;have HB3:=hid (HB2.out.trans (hB3.mono HB2.out.size));clear hB3
     go_wp2_with fail
     refine(AD.out _).mono ?_;rintro e w4 ⟨rfl,hB4⟩;have HB4:=hid (HB3.out.trans (hB4.mono HB3.out.size));clear hB4
     go_wp2
     go_roundg gh
     case rel=>exact⟨k+1,by have:=HK.out;omega,by go_num,hid (by rw[HT4.out]),HB4⟩
     case measure=>omega
    | succ gh2=>
     have hin2:((k:Int)+1+(m:Int)<(p.length:Int)):=by omega
     have hjl:k+1+m<p.length:=by omega
     have hci:=(hBx.out.cell (p:=⟨b0,off+k,none⟩) hb0).trans ((HC.out k (by rw[jQ];exact hkl)).trans (kh p k hkl));have hck:=(hBx.out.cell (p:=⟨b0,off+(k+1+m),none⟩) hb0).trans ((HC.out (k+1+m) (by rw[jQ];exact hjl)).trans (kh p (k+1+m) hjl));have HST:=hid (VG p k m hjl);have hll:=Ka p k m;have HM:=hid hm
     have hmI:(m:Int)≤30:=by omega
     generalize p[k]?.getD 0=x at *;generalize p[k+1+m]?.getD 0=y at *
     obtain⟨ls,hls⟩:∃ls,kO p k m=ls:=⟨_,rfl⟩
     rw[hls] at HST hll ⊢;clear hls hm
     have hlsI:(ls:Int)≤30:=by omega
     by_cases hxy:y<x
     ·have HS2:Hid (kO p k (m+1)=ls+1):=hid (by rw[HST.out,if_pos hxy])
      clear HST
      go_wp2
      go_quiet (fail)
      have hB':=below_drewN hBx.out nq
      go_wp2
      go_roundg gh2
      case rel=>exact⟨m+1,by rw[HS2.out];go_num,by go_num,by have:=HM.out;omega,hid hB'⟩
      case measure=>omega
     ·have HS2:Hid (kO p k (m+1)=ls):=hid (by rw[HST.out,if_neg hxy];rfl)
      clear HST
      go_wp2
      go_quiet (fail)
      have hB':=below_drewN hBx.out nq
      go_wp2
      go_roundg gh2
      case rel=>exact⟨m+1,by rw[HS2.out],by go_num,by have:=HM.out;omega,hid hB'⟩
      case measure=>omega
