/- Contracts: the library's slices over int64: Repeat; filled. -/
import Derived.Test.YteagkgagdelklaaGreatDoorZT04
set_option maxRecDepth 100000
set_option maxHeartbeats 2000000
namespace Go.Proofs.YteagkgagdelklaaGreatDoor
open Go.RowKit
def kS (x:Int) (n k:Nat):List Value:=List.replicate k (Value.int .i64 x)++List.replicate (n-k) (Value.int .i64 0)
theorem Wh (x:Int) {n k:Nat} (h:k≤n):(kS x n k).length=n:=by simp[kS];omega
theorem Wi (x:Int) {n k m:Nat} (h:k+m≤n):splice (kS x n k) k (List.replicate m (Value.int .i64 x))=kS x n (k+m):=by
 unfold splice kS;rw[List.take_left' (by simp),Qa8,List.drop_append,Qa8,Qbx (by simp),Qbe,List.drop_replicate,←QaV,Qbu]
 congr 2
 omega
theorem DC (x:Int) {n k j:Nat} (h:j<k):(kS x n k)[j]? =some (Value.int .i64 x):=by
 unfold kS;rw[QaB (by simpa using h)];simp[h]
theorem Gr (n:Nat) (w:World) (hn:n≤1000000):Calls Tryz.prog 166 #[.int .u64 1,.int .u64 (n:Int)] w fun e w'=>e = .returned (.tuple #[.int .u64 0,.int .u64 (n:Int)])∧w=w':=by
 refine(Tryz.bits_Mul 1 n (by omega) (by omega) w).mono fun e w' ⟨h1,h2⟩=>⟨?_,h2.symm⟩
 have e1:1*n/18446744073709551616=0:=by omega
 have e2:1*n%18446744073709551616=n:=by omega
 rw[h1,e1,e2];rfl
theorem Az:(Tryz.prog.info? 2).map (fun i=>(i.zero,i.size,i.bytes))=some (some (.int .i64 0),1,8):=by kernel_rfl
theorem W6 (w:World) (n:Nat) (hn:n≤17592186044416):(Instr.makeSlice 118 (.int .i64 (n:Int)) (.int .i64 (n:Int))).run Tryz.prog w = .ok (.slice (some ⟨w.heap.size,0,none⟩) n n) (w.alloc (.cells (kS 0 n 0).toArray 2)):=by
 have:=run_make_row' (P:=Tryz.prog) 118 2 (.int .i64 0) 8 Tryz.underlying118 Az rfl .i64 .i64 n (by omega) (by omega) w;rw[JG] at this;rw[this];simp[kS]
theorem LY (x:Int) (w:World) (b c n:Nat) (hO:ja w b 2 [.int .i64 x]) (hn:n≤1000000):
  Calls Tryz.prog 151 #[.slice (some ⟨b,0,none⟩) 1 c,.int .i64 n] w fun e w'=>e = .returned (.slice (some ⟨w.heap.size,0,none⟩) n n)∧ja w' w.heap.size 2 (je (List.replicate n x))∧Below w.heap.size w w':=by
 have hmk:=W6 w n (by omega);have hO2:=hO.alloc (.cells (kS 0 n 0).toArray 2);have hc0:(w.alloc (.cells (kS 0 n 0).toArray 2)).cell? ⟨b,0,none⟩=some (.int .i64 x):=hO2.cell 0
 have hz:kS 0 n 0=kS x n 0:=by simp[kS]
 have HG:Hid (ja (w.alloc (.cells (kS 0 n 0).toArray 2)) w.heap.size 2 (kS x n 0)):=Lib.hid (by
  have h:=ja.make w 2 (kS 0 n 0)
  have e:∀L,kS 0 n 0=L→ja (w.alloc (.cells (kS 0 n 0).toArray 2)) w.heap.size 2 L:=fun L e=>e ▸ h
  exact e _ hz)
 clear hO hz;go_enter Tryz.func151,Tryz.ntmps151
 go_upto_region 7 with (go_at_call 166;refine(Gr n _ hn).mono ?_;rintro e w' ⟨rfl,rfl⟩)
 clear hO2 hmk
 have hcs:∀j v,(List.replicate (min 1 n) (Value.int .i64 x))[j]? =some v→(w.alloc (.cells (kS 0 n 0).toArray 2)).cell? ((⟨b,0,none⟩:Addr).add j)=some v:=by
  intro j v hv;rw[Qbk] at hv;split at hv
  ·rename_i hj
   have:j=0:=by omega
   subst this;rw[←hv];exact hc0
  ·cases hv
 have Hcs:=Lib.hid hcs;clear hcs hc0
 go_wp2_with ((refine wpList_copy_splice (o:=⟨some 33,_,_,_,_,_⟩) rfl (.tmp 31) (.tmp 32) 118 118 rfl 2 Tryz.underlying118 (by kernel_rfl) (some ⟨w.heap.size,0,none⟩) (some ⟨b,0,none⟩) n n 1 c rfl rfl w.heap.size 0 (kS x n 0) 2 HG.out (List.replicate (min 1 n) (.int .i64 x)) (by simp) (fun _=>⟨rfl,_,rfl,Hcs.out⟩) (by rw[Wh x (by omega)];simp;omega) (fun v hv=>by rw[QaU hv];rfl) w.heap.size w ((Below.refl _ _).alloc (Nat.le_refl _) _) (Nat.le_refl _) ?_;intro w1 hw1 hB1;rw[Wi x (by omega)] at hw1;clear HG Hcs))
 go_loopg [8] (n-min 1 n) (fun gh k wr=>∃m:Nat,k = .int .i64 m∧m+gh=n∧Hid (1≤m∨n=0)∧Hid (ja wr w.heap.size 2 (kS x n m))∧Below w.heap.size w wr)
 case atStart=>exact⟨min 1 n,by simp,by omega,Lib.hid (by omega),Lib.hid (by have:=hw1.out;simp at this;exact this),hB1⟩
 case round=>
  clear hw1 hB1;obtain⟨m,rfl,hm,h1,hO,hB⟩:=hrel;by_cases hlt:m<n
  ·have hml:m≤n:=by omega
   have hmn:¬n=m:=by omega
   have hm0:¬m=0:=by have:=h1.out;omega
   have hl:=Lib.hid (fun j v (hv:(List.replicate (min m (n-m)) (Value.int .i64 x))[j]? =some v)=>show wr.cell? ((⟨w.heap.size,0,none⟩:Addr).add j)=some v from by
    rw[Qbk] at hv;split at hv
    ·rename_i hj
     rw[←hv];have:=(hO.out.cell j).trans (DC x (n:=n) (by omega:j<m))
     (simp only[Addr.add];split <;> simp_all)
    ·cases hv)
   have hcp:=run_copy_row (P:=Tryz.prog) wr.drew 118 118 3 2 w.heap.size m (n-m) (n-m) ⟨w.heap.size,0,none⟩ m n (kS x n m).toArray 2 (List.replicate (min m (n-m)) (.int .i64 x)) Tryz.underlying118 (by kernel_rfl) hO.out (by simp) hl.out (by simp[Wh x hml];omega) (fun v hv=>by rw[QaU hv];rfl);have hsp:=Wi x (n:=n) (k:=m) (m:=min m (n-m)) (by omega);unfold splice at hsp;rw[QaV,List.toList_toArray,hsp] at hcp;simp only[Qa8,goInt] at hcp;have hO1:Hid (ja (wr.drew.setRow w.heap.size (kS x n (m+min m (n-m))).toArray) w.heap.size 2 (kS x n (m+min m (n-m)))):=Lib.hid (setRow_heap wr.drew w.heap.size _ _ 2 (0,0) hO.out);have hB1:Below w.heap.size w (wr.drew.setRow w.heap.size (kS x n (m+min m (n-m))).toArray):=below_setRow hB.drew (Nat.le_refl _) _;have hmm:IntKind.i64.wrap ((m:Int)+((min m (n-m):Nat):Int))=(m:Int)+((min m (n-m):Nat):Int):=IntWalk.i64_in _ (by omega)
   have hle:m+min m (n-m)≤n:=by omega
   have hgt:m<m+min m (n-m):=by have:=h1.out;omega
   generalize hmin:min m (n-m)=d at *;have Hd:=Lib.hid hmin;clear hl hsp hmin hO hB
   go_wp2_with fail
   go_region
   go_wp2
   go_roundg (gk-d)
   case rel=>exact⟨m+d,by go_num,by omega,Lib.hid (by omega),hO1,hB1⟩
   case measure=>omega
  ·have hmn:m=n:=by omega
   have hin:¬((m:Int)<(n:Int)):=by omega
   have HO:=Lib.hid (show ja wr w.heap.size 2 (je (List.replicate n x)) by have:=hO.out;rw[hmn] at this;simpa [kS,je] using this);clear hO hmn
   go_wp2
   go_ret;exact⟨rfl,HO.out,hB⟩
theorem DE (x:Int) (w:World) (n:Nat) (hn:n≤1000000):
  Calls Tryz.prog 115 #[.int .i64 n,.int .i64 x] w fun e w'=>∃g,e = .returned (.slice (some ⟨g,0,none⟩) n n)∧w.heap.size≤g∧ja w' g 2 (je (List.replicate n x))∧Below w.heap.size w w':=by
 have hO:=ja.make w 2 [.int .i64 x];have RP:=Lib.hid (LY x _ w.heap.size 1 n hO hn);clear hO;go_enter Tryz.func115,Tryz.ntmps115
 go_wp2_with fail
 refine RP.out.mono ?_;rintro e w1 ⟨rfl,hO1,hB1⟩
 go_wp2
 go_ret;exact⟨_,rfl,by omega,by simpa using hO1,((Below.refl _ w).alloc (Nat.le_refl _) _).trans (hB1.mono (by simp))⟩
def far (a:Int):Prop:=a < -999999999∨999999999<a
instance (a:Int):Decidable (far a):=by unfold far;infer_instance
def qw (a l h:Int):Int:=if l≤a∧a≤h then 0 else 3
theorem YF (a l h:Int) (w:World):Calls Tryz.prog 52 #[.int .i64 a,.int .i64 l,.int .i64 h] w fun e w'=>e = .returned (.int .i64 (qw a l h))∧w=w':=by
 unfold qw;split
 ·exact UV _ _ _ _ (by omega) (by omega)
 ·exact UU _ _ _ _ (by omega)
theorem Qk (a:Int) (w:World):Calls Tryz.prog 49 #[.int .i64 a] w fun e w'=>e = .returned (.int .i64 (qw a (-999999999) 999999999))∧w=w':=by
 unfold qw;split
 ·exact Tt _ _ (by omega) (by omega)
 ·exact Ts _ _ (by omega)
def D8 (a b:Int) (w:World) (e:Ending) (w':World):Prop:=
 e=(if far a∨far b then .returned (.tuple #[.int .i64 0,.int .i64 3]) else .returned (.tuple #[.int .i64 (Int.gcd a b),.int .i64 0]))∧Below w.heap.size w w'
theorem XN (x y:Int) (w:World) (t:TypeId):
  Calls Tryz.prog 48 #[.slice (some ⟨w.heap.size,0,none⟩) 2 2] (w.alloc (.cells #[.int .i64 x,.int .i64 y] t)) fun e w'=>e = .returned (.int .i64 (qp [x,y]))∧w.alloc (.cells #[.int .i64 x,.int .i64 y] t)=w':=
 DM _ [x,y] _ (Sl.lit w t #[.int .i64 x,.int .i64 y] 2 rfl (by omega))
theorem RH (a b:Int) (w:World):
  Calls Tryz.prog 17 #[.int .i64 a,.int .i64 b] w (D8 a b w):=by
 by_cases hf:far a∨far b
 ·have he:qp [qw a (-999999999) 999999999,qw b (-999999999) 999999999]=3:=by
   unfold far at hf;unfold qp qp qp qw;split <;> split <;> (try split) <;> omega
  have He:=Lib.hid he;clear he;have Hf:=Lib.hid hf;clear hf;go_enter Tryz.func17,Tryz.ntmps17
  go_wp2_with (first | (go_at_call 49;refine(Qk _ _).mono ?_;rintro e w' ⟨rfl,rfl⟩) | (go_at_call 48;refine(XN _ _ _ _).mono ?_;rintro e w' ⟨rfl,rfl⟩;rw[He.out]))
  go_ret2;exact⟨by rw[if_pos Hf.out];rfl,(Below.refl _ _).alloc (Nat.le_refl _) _⟩
 ·have h1: -999999999≤a∧a≤999999999:=by unfold far at hf;omega
  have h2: -999999999≤b∧b≤999999999:=by unfold far at hf;omega
  have he:qp [qw a (-999999999) 999999999,qw b (-999999999) 999999999]=0:=by
   unfold qp qp qp qw;rw[if_pos h1,if_pos h2];rfl
  have hg:(Int.gcd a b:Int)≤999999999:=by
   by_cases h0:a=0
   ·subst h0;rw[Int.gcd_zero_left];omega
   ·have:=Int.gcd_le_natAbs_left b h0;omega
  have He:=Lib.hid he;clear he;have Hf:=Lib.hid hf;clear hf;obtain⟨h11,h12⟩:=h1;obtain⟨h21,h22⟩:=h2;go_enter Tryz.func17,Tryz.ntmps17
  go_wp2_with (first | (go_at_call 49;refine(Qk _ _).mono ?_;rintro e w' ⟨rfl,rfl⟩) | (go_at_call 48;refine(XN _ _ _ _).mono ?_;rintro e w' ⟨rfl,rfl⟩;rw[He.out]) | (go_at_call 51;refine(WV _ _ (by omega) (by omega)).mono ?_;rintro e w' ⟨rfl,rfl⟩) | (go_at_call 50;refine(Q7 _ _ _).mono ?_;rintro e w' ⟨rfl,n,rfl⟩))
  go_ret2;refine⟨?_,(below_drewN ((Below.refl _ _).alloc (Nat.le_refl _) _) n)⟩;rw[if_neg Hf.out];exact zi (by rw[IntWalk.wrap64_in _ (by unfold Int.gcd at hg;omega)];rfl) rfl
def AL (a n:Int) (w:World) (e:Ending) (w':World):Prop:=
 (if far a∨n<1∨999999999<n then e = .returned (.tuple #[.int .i64 0,.int .i64 3])
  else if Int.gcd a n=1 then ∃x:Int,e = .returned (.tuple #[.int .i64 x,.int .i64 0])∧0≤x∧x<n∧n∣(x*a-1)
  else e = .returned (.tuple #[.int .i64 0,.int .i64 7]))∧Below w.heap.size w w'
theorem RJ (a n:Int) (w:World):
  Calls Tryz.prog 18 #[.int .i64 a,.int .i64 n] w (AL a n w):=by
 by_cases hf:far a∨n<1∨999999999<n
 ·have he:qp [qw a (-999999999) 999999999,qw n 1 999999999]=3:=by
   unfold far at hf;unfold qp qp qp qw;split <;> split <;> (try split) <;> omega
  have He:=Lib.hid he;clear he;have Hf:=Lib.hid hf;clear hf;go_enter Tryz.func18,Tryz.ntmps18
  go_wp2_with (first | (go_at_call 49;refine(Qk _ _).mono ?_;rintro e w' ⟨rfl,rfl⟩) | (go_at_call 52;refine(YF _ _ _ _).mono ?_;rintro e w' ⟨rfl,rfl⟩) | (go_at_call 48;refine(XN _ _ _ _).mono ?_;rintro e w' ⟨rfl,rfl⟩;rw[He.out]))
  go_ret2;exact⟨by rw[if_pos Hf.out];rfl,(Below.refl _ _).alloc (Nat.le_refl _) _⟩
 ·have h1: -999999999≤a∧a≤999999999:=by unfold far at hf;omega
  have h2:1≤n∧n≤999999999:=by unfold far at hf;omega
  have he:qp [qw a (-999999999) 999999999,qw n 1 999999999]=0:=by
   unfold qp qp qp qw;rw[if_pos h1,if_pos h2];rfl
  have He:=Lib.hid he;clear he;have Hf:=Lib.hid hf;clear hf;obtain⟨h11,h12⟩:=h1;obtain⟨h21,h22⟩:=h2;go_enter Tryz.func18,Tryz.ntmps18
  go_wp2_with (first | (go_at_call 49;refine(Qk _ _).mono ?_;rintro e w' ⟨rfl,rfl⟩) | (go_at_call 52;refine(YF _ _ _ _).mono ?_;rintro e w' ⟨rfl,rfl⟩) | (go_at_call 48;refine(XN _ _ _ _).mono ?_;rintro e w' ⟨rfl,rfl⟩;rw[He.out]) | fail)
  refine(WE _ _ _ h21 (by omega)).mono ?_;rintro e w' ⟨⟨k,rfl⟩,h⟩
  rcases h with ⟨hg,x,rfl,hx0,hxn,hxd⟩ | ⟨hg,rfl⟩
  ·have Hg:=Lib.hid hg;clear hg
   go_wp2
   go_ret2;refine⟨?_,(below_drewN ((Below.refl _ _).alloc (Nat.le_refl _) _) k)⟩;rw[if_neg Hf.out,if_pos Hg.out];exact⟨x,rfl,hx0,hxn,hxd⟩
  ·have Hg:=Lib.hid hg;clear hg
   go_wp2
   go_ret2;refine⟨?_,(below_drewN ((Below.refl _ _).alloc (Nat.le_refl _) _) k)⟩;rw[if_neg Hf.out,if_neg Hg.out];rfl
def Uh (m:Int) (w:World) (e:Ending) (w':World):Prop:=
 (if 0≤m∧m≤999999999 then ∃b:Bool,e = .returned (.tuple #[.bool b,.int .i64 0])∧(b=true↔yX m)
  else e = .returned (.tuple #[.bool false,.int .i64 3]))∧w=w'
theorem RL (m:Int) (w:World):Calls Tryz.prog 111 #[.int .i64 m] w (Uh m w):=by
 by_cases hf:0≤m∧m≤999999999
 ·obtain⟨h1,h2⟩:=hf
  go_enter Tryz.func111,Tryz.ntmps111
  go_wp2_with (first | (go_at_call 52;refine(UV _ _ _ _ h1 h2).mono ?_;rintro e w' ⟨rfl,rfl⟩) | (go_at_call 147;refine(Aj _ _ h1 h2).mono ?_;rintro e w' ⟨b,rfl,hb,rfl⟩))
  go_ret2;exact⟨by rw[if_pos ⟨h1,h2⟩];exact⟨b,rfl,hb⟩,rfl⟩
 ·have h1:m<0∨999999999<m:=by omega
  have Hf:=Lib.hid hf;clear hf;go_enter Tryz.func111,Tryz.ntmps111
  go_wp2_with (first | (go_at_call 52;refine(UU _ _ _ _ h1).mono ?_;rintro e w' ⟨rfl,rfl⟩))
  go_ret2;exact⟨by rw[if_neg Hf.out];rfl,rfl⟩
def Bv (c:Int) (l:List Int) (w:World) (e:Ending) (w':World):Prop:=
 (if c=0 then ∃v,e = .returned (.tuple #[v,.int .i64 0])∧Sl w' 1 v (je l) else e = .returned (.tuple #[.slice none 0 0,.int .i64 c]))∧Below w.heap.size w w'
def jD (w:World) (v:Value) (xs:List Value):Prop:=
 ∃A c,v = .slice A xs.length c∧xs.length≤c∧xs.length≤140737488355328∧(0<xs.length → ∃b off,A=some ⟨b,off,none⟩∧b<w.heap.size ∧ ∀j,j<xs.length→w.cell? ⟨b,off+j,none⟩=xs[j]?)
theorem Sl.wide {w:World} {v:Value} {xs:List Value} (h:Sl w 1 v xs):jD w v xs:=by
 obtain⟨A,c,rfl,h1,h2⟩:=h.form;refine⟨A,c,rfl,h1,by omega,fun hn=> ?_⟩;obtain⟨b,off,hA,hb,hc⟩:=h.at_ hn;exact⟨b,off,hA,hb,hc⟩
theorem jD.form {w:World} {v:Value} {xs:List Value} (h:jD w v xs):∃A c,v = .slice A xs.length c∧xs.length≤c∧xs.length≤140737488355328:=by
 obtain⟨A,c,h1,h2,h3,_⟩:=h;exact⟨A,c,h1,h2,h3⟩
theorem jD.at_ {w:World} {A:Option Addr} {n c:Nat} {xs:List Value} (h:jD w (.slice A n c) xs) {k:Nat} (hk:k<xs.length):
  ∃b off,A=some ⟨b,off,none⟩∧b<w.heap.size ∧ ∀j,j<xs.length→w.cell? ⟨b,off+j,none⟩=xs[j]? :=by
 obtain⟨A',c',hv,h1,h2,h3⟩:=h
 injection hv with hA _ _
 subst hA;exact h3 (by omega)
theorem jD.below {w w':World} {v:Value} {xs:List Value} (h:jD w v xs) (hb:Below w.heap.size w w'):jD w' v xs:=by
 obtain⟨A,c,rfl,h1,h2,h3⟩:=h;refine⟨A,c,rfl,h1,h2,fun hn=> ?_⟩;obtain⟨b,off,hA,hlt,hc⟩:=h3 hn;exact⟨b,off,hA,Qac hlt hb.size,fun j hj=>(hb.cell (p:=⟨b,off+j,none⟩) hlt).trans (hc j hj)⟩
theorem Dd {p q:List Int} {k:Nat} (hk:k<p.length) (hl:p.length=q.length) (h:(decide (p.drop k=q.drop k))=decide (p=q)) (he:p[k]?.getD 0=q[k]?.getD 0):decide (p.drop (k+1)=q.drop (k+1))=decide (p=q):=by
 have hq:k<q.length:=by omega
 rw[Qaa hk,Qaa hq] at he;simp only[Qbl] at he;have e1:p.drop k=p[k]::p.drop (k+1):=QaF hk;have e2:q.drop k=q[k]::q.drop (k+1):=QaF hq;rw[←h,e1,e2,he];exact decide_eq_decide.mpr ⟨fun h=>by rw[h],fun h=>(List.cons.inj h).2⟩
theorem Db {p q:List Int} {k:Nat} (he:p[k]?.getD 0≠q[k]?.getD 0):decide (p=q)=false:=by
 simp only[decide_eq_false_iff_not];intro h;subst h;exact he rfl
theorem Mw (v u:Value) (p q:List Int) (w:World) (hv:jD w v (je p)) (hu:jD w u (je q)):
  Calls Tryz.prog 28 #[v,u] w fun e w'=>e = .returned (.bool (decide (p=q)))∧Below w.heap.size w w':=by
 obtain⟨A,c,rfl,hc1,hc2⟩:=hv.form;obtain⟨B,d,rfl,gc1,gc2⟩:=hu.form;simp only[ku] at hc1 hc2 hv gc1 gc2 hu ⊢
 obtain⟨r,hr⟩:∃r,decide (p=q)=r:=⟨_,rfl⟩
 have HR:=Lib.hid hr;rw[hr];by_cases hl:p.length=q.length
 ·have hb:((p.length:Int) != (q.length:Int))=false:=by rw[hl];simp
  have HL:=Lib.hid hl;clear hr hl;go_enter Tryz.func28,Tryz.ntmps28
  go_wp2_with fail
  go_loopg [5] p.length (fun g i wr=>∃(k:Nat),k+g=p.length∧i = .int .i64 k∧Hid (decide (p.drop k=q.drop k)=decide (p=q))∧Below w.heap.size w wr)
  case atStart=>exact⟨0,by omega,rfl,Lib.hid rfl,Below.refl _ _⟩
  case round=>
   obtain⟨k,hk,rfl,hD,hB⟩:=hrel
   cases gk with
   | zero=>
    have hin:¬((k:Int)<(p.length:Int)):=by omega
    have HT:Hid (r=true):=Lib.hid (by
     rw[←HR.out,←hD.out,Qa4 (by omega),Qa4 (by have:=HL.out;omega)];rfl)
    clear hk
    go_wp2
    go_ret;exact⟨by rw[HT.out];rfl,hB⟩
   | succ g=>
    have hlt:k<p.length:=by omega
    have hlq:k<q.length:=by have:=HL.out;omega
    obtain⟨b1,off1,rfl,hbb1,hcell1⟩:=hv.at_ (k:=k) (by rw[ku];omega);obtain⟨b2,off2,rfl,hbb2,hcell2⟩:=hu.at_ (k:=k) (by rw[ku];omega);have hck1:=(hB.cell (p:=⟨b1,off1+k,none⟩) hbb1).trans ((hcell1 k (by rw[ku];omega)).trans (kz p k hlt));have hck2:=(hB.cell (p:=⟨b2,off2+k,none⟩) hbb2).trans ((hcell2 k (by rw[ku];omega)).trans (kz q k hlq));have Hstep:=Lib.hid (fun he=>Dd hlt HL.out hD.out he);have Hdiff:=Lib.hid (fun he=>Db (p:=p) (q:=q) (k:=k) he);have Hk:=Lib.hid hk;clear hcell1 hcell2 hv hu hk;generalize p[k]?.getD 0=x at *;generalize q[k]?.getD 0=y at *;by_cases he:x=y
    ·have Hs:=Lib.hid (Hstep.out he)
     have hxy:(x != y)=false:=by simp[he]
     clear he
     go_wp2
     go_quiet (fail)
     have hB':=below_drewN hB nq
     go_wp2
     go_roundg g
     case rel=>exact⟨k+1,by have:=Hk.out;omega,by go_num,Hs,hB'⟩
     case measure=>omega
    ·have Hs:=Lib.hid (Hdiff.out he)
     have hxy:(x != y)=true:=by simpa using he
     clear he;have HF:Hid (r=false):=Lib.hid (by rw[←HR.out];exact Hs.out)
     go_wp2
     go_quiet (fail)
     have hB':=below_drewN hB nq
     go_wp2
     go_ret;exact⟨by rw[HF.out];rfl,hB'⟩
 ·have hb:((p.length:Int) != (q.length:Int))=true:=by simpa using (by omega:¬(p.length:Int)=q.length)
  have hne:p≠q:=by intro h;subst h;exact hl rfl
  have HF:Hid (r=false):=Lib.hid (by rw[←hr];simpa using hne);clear hr hne hl;go_enter Tryz.func28,Tryz.ntmps28
  go_wp2
  go_ret;exact⟨by rw[HF.out];rfl,Below.refl _ _⟩
def kX (pl:List Int):Nat→List Int×List Int
 | 0=>([],(List.range pl.length).map fun (i:Nat)=>(i:Int))
 | k+1=>((kX pl k).1++[(kX pl k).2[(pl[k]?.getD 0).toNat]?.getD 0],(kX pl k).2.eraseIdx (pl[k]?.getD 0).toNat)
def YP (pl:List Int):Prop:=∀k,k<pl.length→0≤pl[k]?.getD 0∧pl[k]?.getD 0<((pl.length-k:Nat):Int)
theorem Fj {pl:List Int} (h:YP pl) (k:Nat) (hk:k≤pl.length):(kX pl k).1.length=k∧(kX pl k).2.length=pl.length-k:=by
 induction k with
 | zero=>simp[kX]
 | succ k ih=>
  have ih:=ih (by omega);have hp:=h k (by omega);unfold kX;refine⟨by simp[ih.1],?_⟩;rw[List.length_eraseIdx_of_lt (by rw[ih.2];omega),ih.2];omega
def K1 (cs:List Value):Nat→List Value→List Value
 | _,[]=>cs
 | o,v::r=>K1 (cs.set o v) (o+1) r
theorem ja.puts {g:Nat} {t:TypeId} (vs:List Value):∀ {w:World} {cs:List Value} (o:Nat),ja w g t cs→ja (w.setCells g o vs) g t (K1 cs o vs):=by
 induction vs with
 | nil=>exact fun o h=>h
 | cons v r ih=>exact fun o h=>ih (o+1) (h.put o v)
theorem Oz (vs:List Value):∀(cs:List Value) (o:Nat),o+vs.length≤cs.length→K1 cs o vs=cs.take o++(vs++cs.drop (o+vs.length)):=by
 induction vs with
 | nil=>intro cs o h;simp[K1]
 | cons v r ih=>
  intro cs o h;simp only[QaR] at h ⊢;unfold K1;rw[ih _ _ (by rw[Qbz];omega)];have:=list_seg_step cs o v r (by omega);rw[QaV,QaV] at this;exact this
theorem Ds (l z:List Int) (a:Nat) (ha:a<l.length):K1 (je (l++z)) 0 ((((l++z).take l.length).take a++((l++z).take l.length).drop (a+1)++List.replicate (a+1-a) 0).map (Value.int .i64))=je (l.eraseIdx a++(0::z)):=by
 rw[List.take_left,Oz _ _ _ (by simp[je];omega),QbL,Qbe,List.eraseIdx_eq_take_drop_succ]
 have hl:((l.take a++l.drop (a+1)++List.replicate (a+1-a) 0).map (Value.int .i64)).length=l.length:=by simp;omega
 rw[hl,Qbi,show a+1-a=1 by omega]
 have hd:(je (l++z)).drop l.length=je z:=by
  unfold je;rw[QaQ,List.drop_left' (by simp)]
 rw[hd];simp[je]
def yp (n k:Nat):List Int:=(List.range k).map (fun (i:Nat)=>(i:Int))++List.replicate (n-k) 0
theorem Av (n k:Nat):(yp n k).length=k+(n-k):=by simp[yp]
theorem Ax (n:Nat):yp n 0=List.replicate n 0:=by simp[yp]
theorem Au (n:Nat):yp n n=(List.range n).map fun (i:Nat)=>(i:Int):=by simp[yp]
theorem Aw (n k:Nat) (h:k<n):(yp n k).set k (k:Int)=yp n (k+1):=by
 unfold yp;rw[QbN _ _ (by simp),show n-k=(n-(k+1))+1 by omega,Qa6,Qar,List.length_range,QbE,Qaq,Qcj,QaQ,QaV];rfl
def Fi (pl:List Int) (w:World) (e:Ending) (w':World):Prop:=
 ∃g,e = .returned (.slice (some ⟨g,0,none⟩) pl.length pl.length)∧w.heap.size≤g∧ja w' g 3 (je (kX pl pl.length).1)∧Below w.heap.size w w'
theorem Fk (v:Value) (pl:List Int) (w:World) (hv:Sl w 1 v (je pl)) (hp:YP pl) (hl:pl.length≤256):
  Calls Tryz.prog 60 #[v] w (Fi pl w):=by
 obtain⟨A,c,rfl,hc1,hc2⟩:=hv.form;simp only[ku] at hc1 hv ⊢
 obtain⟨n,hn⟩:∃n,n=pl.length:=⟨_,rfl⟩
 have HP:=Lib.hid hp
 have hmk:=fun W=>J7 W n (by omega)
 have HN:=Lib.hid hn;have HO0:=Lib.hid (ja.make w 3 (je (List.replicate n 0)));rw[←hn] at hc1 hl ⊢;clear hp hn;go_enter Tryz.func60,Tryz.ntmps60
 go_wp2_with fail
 go_loopg [13] n (fun gh i wr=>∃k:Nat,i = .int .i64 k∧k+gh=n∧Hid (ja wr w.heap.size 3 (je (yp n k)))∧Hid (Below w.heap.size w wr))
 case atStart=>exact⟨0,rfl,by omega,Lib.hid (by rw[Ax];exact HO0.out),Lib.hid ((Below.refl _ _).alloc (Nat.le_refl _) _)⟩
 case round=>
  clear HO0;obtain⟨k,rfl,hk,hO,hB⟩:=hrel
  cases gk with
  | succ gh=>
   have hlt:k<n:=by omega
   have hlt':(k:Int)<(n:Int):=by omega
   have c2:=(hO.out.cell k).trans (kz _ k (by rw[Av];omega));have f2:=hO.out.free k;have HO2:Hid (ja (wr.setCell ⟨w.heap.size,k,none⟩ (.int .i64 k)) w.heap.size 3 (je (yp n (k+1)))):=Lib.hid (by rw[←Aw n k hlt,←x6];exact hO.out.put _ _);have HB2:=Lib.hid (hB.out.setCell (p:=⟨w.heap.size,k,none⟩) (Nat.le_refl _) (.int .i64 k));have Hk:=Lib.hid hk;clear hO hB hk;generalize (yp n k)[k]?.getD 0=y at *
   go_wp2
   go_roundg gh
   case rel=>exact⟨k+1,by go_num,by have:=Hk.out;omega,HO2,HB2⟩
   case measure=>omega
  | zero=>
   have hin:¬((k:Int)<(n:Int)):=by omega
   have hs:=hB.out.size;have hgl:=hO.out.lt
   have HOL:Hid (ja (wr.alloc (.cells (je (List.replicate n 0)).toArray 3)) w.heap.size 3 (je ((kX pl 0).2++List.replicate 0 0))):=Lib.hid (by
    have h:=hO.out.alloc (.cells (je (List.replicate n 0)).toArray 3)
    have e:je (yp n k)=je ((kX pl 0).2++List.replicate 0 0):=by rw[show k=n by omega,Au,HN.out];simp[kX]
    rw[e] at h
    exact h)
   have HOP:Hid (ja (wr.alloc (.cells (je (List.replicate n 0)).toArray 3)) wr.heap.size 3 (je ((kX pl 0).1++List.replicate (n-0) 0))):=Lib.hid (by simpa [kX] using ja.make wr 3 (je (List.replicate n 0)));have HB0:=Lib.hid (hB.out.alloc hs (.cells (je (List.replicate n 0)).toArray 3));have hmk2:=hmk wr;clear hO hB hk hmk
   go_wp2_with fail
   obtain⟨wb,rfl⟩:∃wb,wb=wr:=⟨_,rfl⟩
   go_loopg [3,26] n (fun gh lf i wx=>∃k:Nat,i = .int .i64 k∧k+gh=n∧lf = .slice (some ⟨w.heap.size,0,none⟩) (n-k) n∧Hid (ja wx w.heap.size 3 (je ((kX pl k).2++List.replicate k 0)))∧Hid (ja wx wb.heap.size 3 (je ((kX pl k).1++List.replicate (n-k) 0)))∧Hid (Below w.heap.size w wx))
   case atStart=>exact⟨0,rfl,by omega,by simp,HOL,HOP,HB0⟩
   case round=>
    clear HOL HOP HB0 hmk2;obtain⟨i,rfl,hi,rfl,hL,hP,hB⟩:=hrel
    cases gk with
    | zero=>
     have hin2:¬((i:Int)<(n:Int)):=by omega
     have HPf:Hid (ja wr wb.heap.size 3 (je (kX pl pl.length).1)):=Lib.hid (by
      have h:=hP.out;rw[show i=n by omega,QbE,HN.out] at h
      simpa using h)
     clear hi
     go_wp2
     go_ret;exact⟨_,by rw[HN.out];rfl,hs,HPf.out,hB.out⟩
    | succ gh=>
     have hlt:i<n:=by omega
     have hlt':(i:Int)<(n:Int):=by omega
     obtain⟨hl1,hl2⟩:=Fj HP.out i (by rw[←HN.out];omega);rw[←HN.out] at hl2;have hpi:=HP.out i (by rw[←HN.out];exact hlt);rw[←HN.out] at hpi;obtain⟨b1,off1,rfl,hbb1,hcell1⟩:=hv.at_ (k:=i) (by rw[ku,←HN.out];exact hlt);have c1:=(hB.out.cell (p:=⟨b1,off1+i,none⟩) hbb1).trans ((hcell1 i (by rw[ku,←HN.out];exact hlt)).trans (kz pl i (by rw[←HN.out];exact hlt)));have HS1:Hid ((kX pl (i+1)).1=(kX pl i).1++[(kX pl i).2[(pl[i]?.getD 0).toNat]?.getD 0]):=Lib.hid rfl;have HS2:Hid ((kX pl (i+1)).2=(kX pl i).2.eraseIdx (pl[i]?.getD 0).toNat):=Lib.hid rfl;generalize pl[i]?.getD 0=pa at *;obtain⟨a,rfl⟩:=Qa2 hpi.1
     have ha:a<n-i:=by omega
     rw[Qcl] at HS1 HS2;generalize hPe:(kX pl (i+1)).1=P' at *;generalize hLe:(kX pl (i+1)).2=L' at *;have HPe:=Lib.hid hPe;have HLe:=Lib.hid hLe;clear hPe hLe;generalize (kX pl i).1=P at *;generalize (kX pl i).2=L at *;have c2:=(hL.out.cell a).trans (kz _ a (by simp;omega));rw[QaB (by omega)] at c2;have c3:=(hP.out.cell i).trans (kz _ i (by simp;omega));have f3:=hP.out.free i;have hbl:=hP.out.lt;generalize (P++List.replicate (n-i) 0)[i]?.getD 0=y at *;generalize hx:L[a]?.getD 0=x at *
     have HP2:Hid (ja (wr.setCell ⟨wb.heap.size,i,none⟩ (.int .i64 x)) wb.heap.size 3 (je (P'++List.replicate (n-(i+1)) 0))):=Lib.hid (by
      have h:=hP.out.put i (.int .i64 x);rw[x6,QbN _ _ (by omega),hl1,QbE,show n-i=(n-(i+1))+1 by omega,Qa6,Qaq] at h;rw[HS1.out,QaV]
      exact h)
     have HL2:=Lib.hid (hL.out.other (p:=⟨wb.heap.size,i,none⟩) (by simp;omega) (.int .i64 x));have HB2:=Lib.hid (hB.out.setCell (p:=⟨wb.heap.size,i,none⟩) hs (.int .i64 x))
     have DL:=Lib.hid (Tryz.slices_Delete_int_cells w.heap.size 0 (n-i) n a (a+1) (L++List.replicate i 0) (wr.setCell ⟨wb.heap.size,i,none⟩ (.int .i64 x)) (by simp;omega) (by omega) (by omega) (by omega) (by omega) (fun j hj=>by
      rw[Qbi,HL2.out.cell j,kz _ j hj];simp) (fun j hj=>by rw[Qbi];exact HL2.out.free j))
     rw[show (((a+1:Nat)):Int)=(a:Int)+1 by omega,show n-i-(a+1-a)=n-(i+1) by omega] at DL;have Hi:=Lib.hid hi;clear hcell1 hP hL hB hx hi hpi
     go_wp2_with fail
     refine DL.out.mono ?_;clear DL;rintro e w4 ⟨rfl,q,rfl⟩
     have HL3:Hid (ja (((wr.setCell ⟨wb.heap.size,i,none⟩ (.int .i64 x)).drewN q).setCells w.heap.size 0 ((((L++List.replicate i 0).take (n-i)).take a++((L++List.replicate i 0).take (n-i)).drop (a+1)++List.replicate (a+1-a) 0).map (Value.int .i64))) w.heap.size 3 (je (L'++List.replicate (i+1) 0))):=Lib.hid (by
      have h:=(HL2.out.drewN q).puts ((((L++List.replicate i 0).take (n-i)).take a++((L++List.replicate i 0).take (n-i)).drop (a+1)++List.replicate (a+1-a) 0).map (Value.int .i64)) 0;have e:=Ds L (List.replicate i 0) a (by omega);rw[hl2] at e;rw[e] at h;rw[HS2.out,Qa6]
      exact h)
     have HP3:Hid (ja (((wr.setCell ⟨wb.heap.size,i,none⟩ (.int .i64 x)).drewN q).setCells w.heap.size 0 ((((L++List.replicate i 0).take (n-i)).take a++((L++List.replicate i 0).take (n-i)).drop (a+1)++List.replicate (a+1-a) 0).map (Value.int .i64))) wb.heap.size 3 (je (P'++List.replicate (n-(i+1)) 0))):=Lib.hid (by
      have h:=HP2.out.drewN q
      exact(World.heap_setCells_other _ _ _ _ h.lt (by omega)).trans h)
     have HB3:=Lib.hid (below_setCells (Nat.le_refl w.heap.size) ((((L++List.replicate i 0).take (n-i)).take a++((L++List.replicate i 0).take (n-i)).drop (a+1)++List.replicate (a+1-a) 0).map (Value.int .i64)) 0 _ (below_drewN HB2.out q));clear HL2 HP2 HB2;generalize (((wr.setCell ⟨wb.heap.size,i,none⟩ (.int .i64 x)).drewN q).setCells w.heap.size 0 ((((L++List.replicate i 0).take (n-i)).take a++((L++List.replicate i 0).take (n-i)).drop (a+1)++List.replicate (a+1-a) 0).map (Value.int .i64)))=w5 at *
     go_wp2
     go_roundg gh
     case rel=>exact⟨i+1,by go_num,by have:=Hi.out;omega,rfl,by rw[HLe.out];exact HL3,by rw[HPe.out];exact HP3,HB3⟩
     case measure=>omega
theorem Uu (p a:Int) (w:World):Calls Tryz.prog 254 #[.agg #[.int .i64 p],.int .i64 a] w fun e w'=>e = .returned (.bool (a==0))∧Below w.heap.size w w':=by
 by_cases h:(a==0)=true
 ·go_enter Tryz.func254,Tryz.ntmps254
  go_wp2
  go_ret;exact⟨by rw[h];rfl,(Below.refl _ _).alloc (Nat.le_refl _) _⟩
 ·have h':(a==0)=false:=by simpa using h
  clear h;go_enter Tryz.func254,Tryz.ntmps254
  go_wp2
  go_ret;exact⟨by rw[h'];rfl,(Below.refl _ _).alloc (Nat.le_refl _) _⟩
theorem MM (p a b:Int) (w:World) (hp:1≤p) (hp2:p≤1000000000) (ha:0≤a∧a<p) (hb:0≤b∧b<p):Calls Tryz.prog 258 #[.agg #[.int .i64 p],.int .i64 a,.int .i64 b] w fun e w'=>e = .returned (.int .i64 (a*b%p))∧Below w.heap.size w w':=by
 have h1:0≤a*b:=QbW ha.1 hb.1;have h2:a*b≤1000000000*1000000000:=Int.mul_le_mul (by omega) (by omega) hb.1 (by omega);obtain⟨ha1,ha2⟩:=ha;obtain⟨hb1,hb2⟩:=hb;go_enter Tryz.func258,Tryz.ntmps258
 go_wp2
 go_ret;exact⟨rfl,(Below.refl _ _).alloc (Nat.le_refl _) _⟩
theorem MG (p a b:Int) (w:World) (hp:1≤p) (hp2:p≤1000000000) (ha:0≤a∧a<p) (hb:0≤b∧b<p):Calls Tryz.prog 255 #[.agg #[.int .i64 p],.int .i64 a,.int .i64 b] w fun e w'=>e = .returned (.int .i64 ((a-b)%p))∧Below w.heap.size w w':=by
 obtain⟨ha1,ha2⟩:=ha;obtain⟨hb1,hb2⟩:=hb;go_enter Tryz.func255,Tryz.ntmps255
 go_wp2_with (go_at_call 99;refine(QS _ _ _ hp (by omega)).mono ?_;rintro e w' ⟨rfl,rfl⟩)
 go_ret;exact⟨rfl,(Below.refl _ _).alloc (Nat.le_refl _) _⟩
theorem MJ (p n:Int) (w:World) (hp:1≤p) (hp2:p≤1000000000):Calls Tryz.prog 256 #[.agg #[.int .i64 p],.int .i64 n] w fun e w'=>e = .returned (.int .i64 (n%p))∧Below w.heap.size w w':=by
 go_enter Tryz.func256,Tryz.ntmps256
 go_wp2_with (go_at_call 99;refine(QS _ _ _ hp (by omega)).mono ?_;rintro e w' ⟨rfl,rfl⟩)
 go_ret;exact⟨rfl,(Below.refl _ _).alloc (Nat.le_refl _) _⟩
noncomputable def KH (p b:Int):Int:=@Classical.epsilon Int ⟨0⟩ fun x=>0≤x∧x<p∧p∣(x*b-1)
theorem AK (p b x:Int) (h0:0≤x) (h1:x<p) (h2:p∣(x*b-1)):KH p b=x:=by
 have h:=Classical.epsilon_spec (p:=fun x=>0≤x∧x<p∧p∣(x*b-1)) ⟨x,h0,h1,h2⟩;change 0≤KH p b∧KH p b<p∧p∣(KH p b*b-1) at h;generalize KH p b=y at *;obtain⟨g0,g1,g2⟩:=h
 have hd:p∣(y-x):=by
  have e:y-x=y*(1-x*b)+x*(y*b-1):=by grind
  rw[e];exact Int.dvd_add (Int.dvd_trans (by rw[show (1-x*b) = -(x*b-1) by omega];exact Int.dvd_neg.mpr h2) (Int.dvd_mul_left ..)) (Int.dvd_trans g2 (Int.dvd_mul_left ..))
 have:=Int.emod_eq_of_lt g0 g1;have h3:=Int.emod_eq_of_lt h0 h1;have:=Int.emod_emod_of_dvd y (Int.dvd_refl p);have h4:(y-x)%p=0:=Int.emod_eq_zero_of_dvd hd;have h5:=(Int.emod_eq_emod_iff_emod_sub_eq_zero).mpr h4;omega
noncomputable def QI (p a b:Int):Int:=a*KH p b%p
def PF (p:Int):Prop:=2≤p∧p≤1000000000 ∧ ∀b,0<b→b<p→Int.gcd b p=1
theorem L8 (p a b:Int) (w:World) (hp:PF p) (ha:0≤a∧a<p) (hb:0<b∧b<p):Calls Tryz.prog 257 #[.agg #[.int .i64 p],.int .i64 a,.int .i64 b] w fun e w'=>e = .returned (.int .i64 (QI p a b))∧Below w.heap.size w w':=by
 have hg:=Lib.hid (hp.2.2 b hb.1 hb.2);have hbg:=Lib.hid hb;have hag:=Lib.hid ha;have hpp:=Lib.hid hp;have hp1:=hp.1;have hp2:=hp.2.1;clear hp ha hb;go_enter Tryz.func257,Tryz.ntmps257
 go_wp2_with fail
 refine(WE _ _ _ (by omega) (by omega)).mono ?_;rintro e w1 ⟨⟨k,rfl⟩,h⟩
 rcases h with ⟨-,x,rfl,hx0,hx1,hx2⟩ | ⟨h,-⟩
 ·have hi:=Lib.hid (AK p b x hx0 hx1 hx2)
  have HT:=Lib.hid (fun W=>MM p a x W (by omega) (by omega) hag.out ⟨hx0,hx1⟩);clear hx2
  go_wp2_with (go_at_call 258;refine(HT.out _).mono ?_;rintro e w2 ⟨rfl,hB2⟩)
  go_ret;refine⟨?_,?_⟩
  ·unfold QI;rw[hi.out];rfl
  ·exact(below_drewN ((Below.refl _ w).alloc (Nat.le_refl _) _) k).trans (hB2.mono (by simp))
 ·exact absurd hg.out h
structure jk (g:Nat) (w w':World):Prop where
 os:w'.os=w.os
 tape:w'.tape=w.tape
 output:w'.output=w.output
 size:w.heap.size≤w'.heap.size
 block:∀k,k<w.heap.size→k≠g→w'.heap[k]? =w.heap[k]?
theorem jk.refl (g:Nat) (w:World):jk g w w:=⟨rfl,rfl,rfl,Nat.le_refl _,fun _ _ _=>rfl⟩
theorem jk.trans {g:Nat} {a b c:World} (h:jk g a b) (k:jk g b c):jk g a c:=
 ⟨k.os.trans h.os,k.tape.trans h.tape,k.output.trans h.output,Qap h.size k.size,fun i hi hg=>(k.block i (Qac hi h.size) hg).trans (h.block i hi hg)⟩
theorem jk.of_below {g:Nat} {a b:World} (h:Below a.heap.size a b):jk g a b:=⟨h.os,h.tape,h.output,h.size,fun i hi _=>h.block i hi⟩
theorem jk.below {g:Nat} {a b c:World} (h:jk g a b) (k:Below b.heap.size b c):jk g a c:=h.trans (jk.of_below k)
theorem jk.setCell {g:Nat} {a b:World} (h:jk g a b) (p:Addr) (hp:p.block=g) (u:Value):jk g a (b.setCell p u):=
 h.trans ⟨rfl,rfl,rfl,by simp[World.setCell],fun k _ hg=>Below.heap_setCell _ _ _ _ (by omega)⟩
theorem jk.toBelow {g B:Nat} {a b:World} (h:jk g a b) (hg:B≤g) (hB:B≤a.heap.size):Below B a b:=⟨h.os,h.tape,h.output,h.size,fun k hk=>h.block k (by omega) (by omega)⟩
theorem ja.but {w w':World} {g h:Nat} {t:TypeId} {cs:List Value} (o:ja w h t cs) (hb:jk g w w') (hg:h≠g):ja w' h t cs:=(hb.block h o.lt hg).trans o
theorem ZB (p:Int) (w:World):(method 397 117 (.agg #[.int .i64 p]) "talisman/algebra.isZero").run Tryz.prog w = .ok (254,.agg #[.int .i64 p]) w:=by kernel_rfl
theorem C5 (p:Int) (w:World):(method 397 117 (.agg #[.int .i64 p]) "talisman/algebra.over").run Tryz.prog w = .ok (257,.agg #[.int .i64 p]) w:=by kernel_rfl
theorem Pq (p:Int) (w:World):(method 397 117 (.agg #[.int .i64 p]) "talisman/algebra.times").run Tryz.prog w = .ok (258,.agg #[.int .i64 p]) w:=by kernel_rfl
theorem Gl (p:Int) (w:World):(method 397 117 (.agg #[.int .i64 p]) "talisman/algebra.minus").run Tryz.prog w = .ok (255,.agg #[.int .i64 p]) w:=by kernel_rfl
theorem CO (p:Int) (w:World):(method 397 117 (.agg #[.int .i64 p]) "talisman/algebra.of").run Tryz.prog w = .ok (256,.agg #[.int .i64 p]) w:=by kernel_rfl
def qg (f:Int→Int) (o k:Nat) (L:List Int):List Int:=L.mapIdx fun j x=>if o≤j∧j<o+k then f x else x
theorem ZJ (f:Int→Int) (o k:Nat) (L:List Int):(qg f o k L).length=L.length:=by simp[qg]
theorem Gb (f:Int→Int) (o:Nat) (L:List Int):qg f o 0 L=L:=by
 apply Qaw;intro j;simp only[qg,Qaj,Qbf]
 cases L[j]? with
 | none=>rfl
 | some x=>simp only[QaC];rw[if_neg (by omega)]
theorem ZI (f:Int→Int) (o k:Nat) (L:List Int):(qg f o k L)[o+k]? =L[o+k]? :=by
 simp only[qg,Qaj,Qb8,and_false,Qcf];cases L[o+k]? <;> simp
theorem ZK (f:Int→Int) (o k:Nat) (L:List Int) (h:o+k<L.length):(qg f o k L).set (o+k) (f (L[o+k]?.getD 0))=qg f o (k+1) L:=by
 apply Qaw;intro j;rw[QbG];simp only[qg,Qaj,List.length_mapIdx];by_cases hj:o+k=j
 ·subst hj;simp[h]
 ·rw[if_neg hj]
  rcases Qae j L.length with hl | hl
  ·rw[Qaa hl]
   simp only[QaC,QaT];by_cases h2:o≤j∧j<o+k
   ·rw[if_pos h2,if_pos (by omega)]
   ·rw[if_neg h2,if_neg (by omega)]
  ·rw[Qah hl];rfl
theorem BJ (f:Int→Int) (o k:Nat) (L:List Int) (h:o+k<L.length) (hf:f (L[o+k]?.getD 0)=L[o+k]?.getD 0):qg f o (k+1) L=qg f o k L:=by
 rw[←ZK f o k L h,hf];apply Qaw;intro j;rw[QbG,ZJ];by_cases hj:o+k=j
 ·subst hj;rw[ZI];simp[h]
 ·rw[if_neg hj]
noncomputable def zD (p d x:Int):Int:=if x=0 then x else QI p x d
theorem VV (p d:Int) (w:World) (b o n c:Nat) (L:List Int) (hO:ja w b 2 (je L)) (hn:o+n=L.length) (hc1:n≤c) (hc2:c≤1000000)
  (hp:PF p) (hL:∀x∈L,0≤x∧x<p) (hd:0<d∧d<p):
  Calls Tryz.prog 149 #[.iface 117 (.agg #[.int .i64 p]),.slice (some ⟨b,o,none⟩) n c,.int .i64 d] w fun e w'=>
   e = .returned (.tuple #[])∧ja w' b 2 (je (qg (zD p d) o n L))∧jk b w w':=by
 have hZ:=ZB p;have hV:=C5 p;have HZ:=Lib.hid (fun (x:Int) W=>Uu p x W);have HO:=Lib.hid (fun (x:Int) W hx=>L8 p x d W hp hx hd);have HL:=Lib.hid hL;clear hp hd hL
 have hstart:ja w b 2 (je (qg (zD p d) o 0 L)):=by rw[Gb];exact hO
 have hb:b<w.heap.size:=hO.lt;go_enter Tryz.func149,Tryz.ntmps149
 go_wp2_with fail
 clear hO
 go_loopw [6,7,10] (fun _ _ i wr=>∃(k:Nat),i = .int .i64 k∧k≤n∧ja wr b 2 (je (qg (zD p d) o k L))∧jk b w wr) (fun _ _ i _=>n-(intOf i).toNat)
 case atStart=>exact⟨0,rfl,by omega,hstart,jk.refl _ _⟩
 case round=>
  clear hstart;obtain⟨k,rfl,hk,hO,hB⟩:=hrel;by_cases hlt:k<n
  ·have hck:=(hO.cell (o+k)).trans (kz _ (o+k) (by rw[ZJ];omega))
   rw[ZI] at hck;have hfr:=hO.free (o+k);have hx:=HL.out (L[o+k]?.getD 0) (by rw[Qaa (by omega)];exact Qay (by omega));have Hsame:=Lib.hid (BJ (zD p d) o k L (by omega));have Hsucc:=Lib.hid (ZK (zD p d) o k L (by omega));generalize L[o+k]?.getD 0=x at *;by_cases h0:(x==0)=true
   ·have Hs:=Lib.hid (Hsame.out (by unfold zD;rw[if_pos (by simpa using h0)]))
    go_wp2_with fail
    refine(HZ.out _ _).mono ?_;rintro e w2 ⟨rfl,hB2⟩;have hB':=hB.below hB2;have hO':=hO.below hB2 hO.lt;clear hck hfr hO hB hx
    go_wp2
    refine⟨⟨k+1,by go_num,by omega,?_,hB'⟩,by simp[intOf];omega⟩;rw[Hs.out];exact hO'
   ·have h0':(x==0)=false:=by simpa using h0
    have Hv:=Lib.hid (show zD p d x=QI p x d by unfold zD;rw[if_neg (by simpa using h0)]);clear h0
    go_wp2_with fail
    refine(HZ.out _ _).mono ?_;rintro e w2 ⟨rfl,hB2⟩;have hB':=hB.below hB2;have hO':=hO.below hB2 hO.lt;clear hck hfr hO hB hB2
    go_wp2_with fail
    refine(HO.out _ _ hx).mono ?_;rintro e w3 ⟨rfl,hB3⟩;have hB:=hB'.below hB3;have hO:=hO'.below hB3 hO'.lt;have hck2:=(hO.cell (o+k)).trans (kz _ (o+k) (by rw[ZJ];omega));have hfr:=hO.free (o+k);clear hB' hO' hB3 hx
    go_wp2
    refine⟨⟨k+1,by go_num,by omega,?_,hB.setCell _ rfl _⟩,by simp[intOf];omega⟩;rw[←Hsucc.out,Hv.out,←x6];exact hO.put _ _
  ·have hkk:k=n:=by omega
   subst hkk
   go_wp2
   go_end0
   exact⟨rfl,hO,hB⟩
end Go.Proofs.YteagkgagdelklaaGreatDoor
namespace Go.Proofs.YteagkgagdelklaaGreatDoor
open Go.RowKit Go.Lib
theorem AI (bad want:Int) (w:World) (hb:bad≠0):
  Calls Tryz.prog 12 #[.int .i64 0,.int .i64 bad,.int .i64 bad,.int .i64 want] w fun e w'=>e = .returned (.bool true)∧w=w':=by
 have h2:(bad != 0)=true:=by simpa using hb
 clear hb;go_enter Tryz.func12,Tryz.ntmps12
 go_wp2
 go_ret;exact⟨by simp,rfl⟩
theorem AJ (x:Int) (w:World):
  Calls Tryz.prog 12 #[.int .i64 x,.int .i64 0,.int .i64 0,.int .i64 x] w fun e w'=>e = .returned (.bool true)∧w=w':=by
 go_enter Tryz.func12,Tryz.ntmps12
 go_wp2
 go_ret;exact⟨by simp,rfl⟩
section
variable {a:Int}
end
end Go.Proofs.YteagkgagdelklaaGreatDoor
namespace Go.Proofs.YteagkgagdelklaaGreatDoor
open Go.RowKit
theorem Ak {p:List Int} {k:Nat} {x:Int} {r:Bool} (hk:k<p.length) (h:(p.drop k).contains x=r) (he:p[k]?.getD 0≠x):(p.drop (k+1)).contains x=r:=by
 rw[Qaa hk,Qbl] at he;rw[←h,QaF hk,List.contains_cons]
 have:(x==p[k])=false:=by simpa using fun h=>he h.symm
 rw[this,Bool.false_or]
theorem Al {p:List Int} {k:Nat} {x:Int} {r:Bool} (hk:k<p.length) (h:(p.drop k).contains x=r) (he:p[k]?.getD 0=x):r=true:=by
 rw[Qaa hk,Qbl] at he;rw[←h,QaF hk,List.contains_cons,he]
 simp
theorem LK (v:Value) (p:List Int) (x:Int) (w:World) (hv:jD w v (je p)):
  Calls Tryz.prog 42 #[v,.int .i64 x] w fun e w'=>e = .returned (.bool (p.contains x))∧Below w.heap.size w w':=by
 obtain⟨A,c,rfl,hc1,hc2⟩:=hv.form;simp only[ku] at hc1 hc2 hv ⊢
 obtain⟨r,hr⟩:∃r,p.contains x=r:=⟨_,rfl⟩
 have HR:=Lib.hid hr;rw[hr];clear hr;go_enter Tryz.func42,Tryz.ntmps42
 go_wp2_with fail
 go_loopg [5] p.length (fun g i wr=>∃(k:Nat),k+g=p.length∧i = .int .i64 k∧Hid ((p.drop k).contains x=r)∧Below w.heap.size w wr)
 case atStart=>exact⟨0,by omega,rfl,Lib.hid (by rw[Qa0];exact HR.out),Below.refl _ _⟩
 case round=>
  obtain⟨k,hk,rfl,hD,hB⟩:=hrel
  cases gk with
  | zero=>
   have hin:¬((k:Int)<(p.length:Int)):=by omega
   have HT:Hid (r=false):=Lib.hid (by rw[←hD.out,Qa4 (by omega)];rfl);clear hk
   go_wp2
   go_ret;exact⟨by rw[HT.out];rfl,hB⟩
  | succ g=>
   have hlt:k<p.length:=by omega
   obtain⟨b1,off1,rfl,hbb1,hcell1⟩:=hv.at_ (k:=k) (by rw[ku];omega);have hck1:=(hB.cell (p:=⟨b1,off1+k,none⟩) hbb1).trans ((hcell1 k (by rw[ku];omega)).trans (kz p k hlt));have Hstep:=Lib.hid (fun he=>Ak hlt hD.out he);have Hthere:=Lib.hid (fun he=>Al hlt hD.out he);have Hk:=Lib.hid hk;clear hcell1 hv hk;generalize p[k]?.getD 0=y at *;by_cases he:y=x
   ·have HF:Hid (r=true):=Lib.hid (Hthere.out he)
    have hxy:(y==x)=true:=by simp[he]
    clear he
    go_wp2
    go_ret;exact⟨by rw[HF.out];rfl,hB⟩
   ·have Hs:=Lib.hid (Hstep.out he)
    have hxy:(y==x)=false:=by simp[he]
    clear he
    go_wp2
    go_roundg g
    case rel=>exact⟨k+1,by have:=Hk.out;omega,by go_num,Hs,hB⟩
    case measure=>omega
end Go.Proofs.YteagkgagdelklaaGreatDoor
namespace Go.Proofs.YteagkgagdelklaaGreatDoor
open Go.RowKit Go.Lib
def U9 {α:Type} (P:Program) (gf:Nat) (lb:Array Value) (xs:List α) (Pr:Nat→α→Value→World→Prop) (Kp:Nat→World→World→Prop) (W:World):Prop:=
 ∀(l:Nat) (J:List α→World→Prop),
  (∀pre A A',J pre A→jk W.heap.size A A'→J pre A') →
  (∀pre x post v A,xs=pre++x::post→J pre A→W.heap.size<A.heap.size→Pr W.heap.size x v A →
   YieldAt Fence.wide 2 P l #[v] A fun e A'=>e = .returned (.bool true)∧J (pre++[x]) A'∧Kp W.heap.size A A') →
  J [] W →
  CallsIn Fence.wide 3 P gf (#[.func (.yield l) #[] #[]]++lb) W fun e W'=>(∃v,e = .returned v)∧J xs W'
def Tq (b:Nat) (R:World→World→Prop) (A:World):Exit→Act→World→Prop
 | .normal,_,A'=>A'.heap[b]? =A.heap[b]? ∧A'.heap[b+1]? =A.heap[b+1]? ∧R A A'
 | _,_,_=>False
theorem Un {α:Type} {P:Program} {g:Operand} {ps:Array Tmp} {assign body:Code} {Q:Exit→Act→World→Prop} {a:Act} {w:World} {gf:Nat} {lb:Array Value} {xs:List α} {Pr:Nat→α→Value→World→Prop} {Kp:Nat→World→World→Prop}
  (hg:a.eval g = .func (.func gf) #[] lb) (eg:∀args w,(callFunc gf args).run P w = .ok (.enter gf args) w)
  (hseq:∀W,Below w.heap.size w W→W.heap.size=w.heap.size+2→U9 P gf lb xs Pr Kp W) (hps:ps.size=1)
  (I:List α→World→Prop) (hI:∀pre A A',I pre A→jk (w.heap.size+2) A A'→I pre A') (hI2:∀pre A l o,I pre A→l=w.heap.size+1→l<A.heap.size→I pre (A.putObj l o))
  (hKt:∀A B C,Kp (w.heap.size+2) A B→Kp (w.heap.size+2) B C→Kp (w.heap.size+2) A C) (hKb:∀A o,w.heap.size+1<A.heap.size→Kp (w.heap.size+2) A (A.putObj (w.heap.size+1) o))
  (hPr:∀x v A o,w.heap.size+1<A.heap.size→Pr (w.heap.size+2) x v A→Pr (w.heap.size+2) x v (A.putObj (w.heap.size+1) o))
  (h0:∀o1 o2,I [] ((w.alloc o1).alloc o2)) (a₁:Value→Act)
  (hassign:∀(l:Nat) (v:Value) (W:World) (K:Act→World→Prop),K (a₁ v) W →
   assign.wpIn (Fence.wide.inRound l) 2 P (Exit.then K fun _ _ _=>False) { tmps:=(ps.zip #[v]).foldl (fun t (p,v)=>t.setIfInBounds p v) a.tmps,defers:=[] } W)
  (hbody:∀(l:Nat) pre x post v A,xs=pre++x::post→I pre A→w.heap.size+2<A.heap.size→Pr (w.heap.size+2) x v A →
   body.wpIn (Fence.wide.inRound l) 2 P (Tq w.heap.size (fun A A'=>I (pre++[x]) A'∧Kp (w.heap.size+2) A A') A) (a₁ v) A)
  (hdone:∀W,I xs W→W.heap[w.heap.size]? =some (.deferred (some []))→Q .normal { a with defers:= { target:= .collected w.heap.size,args:= #[] } ::a.defers } W):
  (Code.rangeFunc g ps assign body).wpIn Fence.wide 4 P Q a w:=by
 refine wpIn_rangeFunc fun fn hfn=> ?_
 generalize hrec:(fun st pe=>({ state:=st,pending:=pe,fn,tmps:=a.tmps,params:=ps,assign,body,defers:=w.heap.size } :Loop))=rec
 have hrec':∀st pe,rec st pe = { state:=st,pending:=pe,fn,tmps:=a.tmps,params:=ps,assign,body,defers:=w.heap.size } :=fun st pe=>by rw[←hrec]
 clear hrec
 obtain⟨W1,hW1⟩:∃W1,W1=(w.alloc (.deferred (some []))).alloc (.loop (rec .ready none)):=⟨_,rfl⟩
 have hs1:W1.heap.size=w.heap.size+2:=by rw[hW1];simp
 have hL1:W1.heap[w.heap.size+1]? =some (.loop (rec .ready none)):=by
  rw[hW1];have:=World.alloc_heap_new (w.alloc (.deferred (some []))) (.loop (rec .ready none));rwa [World.size_alloc] at this
 have hD1:W1.heap[w.heap.size]? =some (.deferred (some [])):=by
  rw[hW1];exact(Below.heap_alloc _ _ _ (by simp)).trans (World.alloc_heap_new w _)
 have hB1:Below w.heap.size w W1:=by rw[hW1];exact((Below.refl _ w).alloc (Nat.le_refl _) _).alloc (by simp) _
 have hI1:I [] W1:=by rw[hW1];exact h0 _ _
 refine⟨w.heap.size+1,[{ target:= .collected w.heap.size,args:= #[] }],W1,{ target:= .fn (.func gf) lb,args:= #[.func (.yield (w.heap.size+1)) #[] #[]] },W1,gf,
  #[.func (.yield (w.heap.size+1)) #[] #[]]++lb,W1,?_,?_,fun _ _=>trivial,?_,(fun h=>by cases h),?_⟩
 ·rw[hW1,hrec'];exact run_enterLoop_outer _ _ _ _ _
 ·simp only[resolve,hg]
  simp[go_sem]
 ·simp[invoke,go_sem,eg]
 have hq:=hseq W1 hB1 hs1 (w.heap.size+1) (fun pre A=>I pre A∧A.heap[w.heap.size+1]? =some (.loop (rec .ready none))∧A.heap[w.heap.size]? =some (.deferred (some [])));rw[hs1] at hq;refine(hq ?_ ?_ ⟨hI1,hL1,hD1⟩).mono ?_
 ·rintro pre A A' ⟨hi,hl,hd⟩ hb
  have h1:=(Array.getElem?_eq_some_iff.1 hl).1;exact⟨hI _ _ _ hi hb,(hb.block _ h1 (by omega)).trans hl,(hb.block _ (by omega) (by omega)).trans hd⟩
 ·rintro pre x post v A hx ⟨hi,hl,hd⟩ hlt hp
  have h1:=(Array.getElem?_eq_some_iff.1 hl).1;have hy:=run_yield (P:=P) (args:= #[v]) hl (by rw[hrec'];simp[hps]);rw[hrec'] at hy;refine⟨fn,_,assign,body,hy,roundIn_of_wpIn trivial (hassign _ v A _ ⟨_,run_beginRound hl (by rw[hrec']),?_⟩)⟩
  obtain⟨A2,hA2⟩:∃A2,A2=A.putObj (w.heap.size+1) (.loop { rec .ready none with state:= .busy }):=⟨_,rfl⟩
  have hl2:A2.heap[w.heap.size+1]? =some (.loop { rec .ready none with state:= .busy }):=by rw[hA2];exact World.putObj_heap_same h1
  have hd2:A2.heap[w.heap.size]? =some (.deferred (some [])):=by rw[hA2];exact(World.putObj_heap_other (by omega)).trans hd
  have hk2:Kp (w.heap.size+2) A A2:=by rw[hA2];exact hKb _ _ h1
  have hi2:I pre A2:=by rw[hA2];exact hI2 _ _ _ _ hi rfl h1
  have hp2:Pr (w.heap.size+2) x v A2:=by rw[hA2];exact hPr _ _ _ _ h1 hp
  have hs2:A2.heap.size=A.heap.size:=by rw[hA2];simp[World.putObj]
  rw[←hA2];refine wpIn_mono (hbody _ pre x post v A2 hx hi2 (by omega) hp2) ?_;rintro e a3 W3 hq3
  cases e with
  | normal=>
   obtain⟨q1,q2,hi3,hk3⟩:=hq3;have hl3:=q2.trans hl2;have h3:=(Array.getElem?_eq_some_iff.1 hl3).1;have hr:=run_endRound (P:=P) none hl3;refine⟨_,_,hr,rfl,⟨hI2 _ _ _ _ hi3 rfl h3,?_,(World.putObj_heap_other (by omega)).trans (q1.trans hd2)⟩,hKt _ _ _ (hKt _ _ _ hk2 hk3) (hKb _ _ h3)⟩;rw[World.putObj_heap_same h3,hrec'];rfl
  | ret=>exact hq3.elim
  | exit id=>exact hq3.elim
  | goto t=>exact hq3.elim
  | panic ch=>exact hq3.elim
  | outgrown=>exact hq3.elim
 ·rintro e W2 ⟨⟨v,rfl⟩,hi,hl,hd⟩
  have h1:=(Array.getElem?_eq_some_iff.1 hl).1;have he:=run_endLoop (P:=P) hl (by rw[hrec'];simp);rw[hrec'] at he;exact⟨none,_,he,hdone _ (hI2 _ _ _ _ hi rfl h1) ((World.putObj_heap_other (by omega)).trans hd)⟩
