/- Contracts of natural numbers: trimmed, naturalOf, isOne, compare. -/
import Derived.Test.YteagkgagdelklaaGreatDoorZT02
set_option maxRecDepth 100000
set_option maxHeartbeats 2000000
namespace Go.Proofs.YteagkgagdelklaaGreatDoor
open Go.RowKit
theorem jB (ws:List Nat):(jz ws).length=ws.length:=by simp[jz]
theorem UR (ws:List Nat) (k:Nat) (h:k<ws.length):(jz ws)[k]? =some (Value.int .u64 ((ws[k]?.getD 0:Nat):Int)):=by
 simp[jz,h]
theorem ET (ws:List Nat) (k:Nat):(jz ws).take k=jz (ws.take k):=by simp[jz]
theorem UO (A:Option Addr) (c:Nat) (ws:List Nat) (w:World) (hv:Sl w 1 (.slice A ws.length c) (jz ws)):
  Calls Tryz.prog 104 #[.slice A ws.length c] w fun e w'=>e = .returned (.slice A (jH ws).length c)∧Sl w 1 (.slice A (jH ws).length c) (jz (jH ws))∧w=w':=by
 have hc:=hv.form;obtain⟨A0,c0,hv0,hc1,hc2⟩:=hc;rw[jB] at hc1 hv0
 obtain⟨rfl,rfl⟩:A=A0∧c=c0:=by simpa using hv0
 clear hv0;go_enter Tryz.func104,Tryz.ntmps104
 go_wp2
 go_loop [3] (fun u=>∃k:Nat,u = .int .i64 k∧k≤ws.length∧Hid (jH (ws.take k)=jH ws)) (fun u=>(intOf u).toNat)
 case atStart=>exact⟨ws.length,rfl,by omega,Lib.hid (by simp)⟩
 case round=>
  obtain⟨k,rfl,hk,hf⟩:=hrel;by_cases h0:0<k
  ·obtain⟨j,rfl⟩:∃j,k=j+1:=⟨k-1,by omega⟩
   obtain⟨b,off,rfl,hb,hcell⟩:=hv.at_ (k:=j) (by rw[jB];omega);have hck:=hcell j (by rw[jB];omega);rw[UR ws j (by omega)] at hck;have Ht:=Lib.hid (zl ws j (by omega));generalize hx:ws[j]?.getD 0=x at hck Ht;clear hx hcell;by_cases hz:x=0
   ·subst hz
    go_wp2
    refine⟨⟨j,rfl,by omega,Lib.hid ?_⟩,by simp[intOf]⟩;rw[←hf.out,Ht.out,Jn]
   ·have hz':(((x:Nat):Int)==0)=false:=by simpa using hz
    have hlen:jH ws=ws.take (j+1):=by rw[←hf.out,Ht.out,Jm _ _ hz]
    have hsl:=hv.take (k:=j+1) (by omega);rw[ET,←hlen] at hsl
    have hn:(jH ws).length=j+1:=by rw[hlen];simp;omega
    have Hn:=Lib.hid hn;clear hn;clear hlen
    go_wp2
    go_ret;refine⟨by rw[Hn.out];rfl,by rw[Hn.out];exact hsl,rfl⟩
  ·have:k=0:=by omega
   subst this
   have hn:jH ws=[]:=by rw[←hf.out];rfl
   have Hn:=Lib.hid hn;clear hn;have hsl:=hv.take (k:=0) (by omega)
   go_wp2
   go_ret;refine⟨by rw[Hn.out];rfl,by rw[Hn.out];exact hsl,rfl⟩
def kq (x y:Nat):Int:=if x<y then -1 else if y<x then 1 else 0
theorem T8 (x y:Nat) (w:World):
  Calls Tryz.prog 162 #[.int .u64 x,.int .u64 y] w fun e w'=>e = .returned (.int .i64 (kq x y))∧w=w':=by
 have n1:∀(z:Nat) (w:World),Calls Tryz.prog 200 #[.int .u64 z] w fun e w'=>e = .returned (.bool false)∧w=w':=by
  intro z w;go_enter Tryz.func200,Tryz.ntmps200
  go_wp2
  go_ret;exact⟨by simp,rfl⟩
 have N1:=Lib.hid n1;clear n1;unfold kq;by_cases h:x<y
 ·rw[if_pos h]
  go_enter Tryz.func162,Tryz.ntmps162
  go_wp2_with (go_at_call 200;refine(N1.out _ _).mono ?_;rintro e w' ⟨rfl,rfl⟩)
  go_ret;exact⟨rfl,rfl⟩
 ·rw[if_neg h]
  by_cases h2:y<x
  ·rw[if_pos h2]
   go_enter Tryz.func162,Tryz.ntmps162
   go_wp2_with (go_at_call 200;refine(N1.out _ _).mono ?_;rintro e w' ⟨rfl,rfl⟩)
   go_ret;exact⟨rfl,rfl⟩
  ·rw[if_neg h2]
   go_enter Tryz.func162,Tryz.ntmps162
   go_wp2_with (go_at_call 200;refine(N1.out _ _).mono ?_;rintro e w' ⟨rfl,rfl⟩)
   go_ret;exact⟨rfl,rfl⟩
theorem T7 (x y:Nat) (w:World):
  Calls Tryz.prog 161 #[.int .i64 x,.int .i64 y] w fun e w'=>e = .returned (.int .i64 (kq x y))∧w=w':=by
 have n1:∀(z:Int) (w:World),Calls Tryz.prog 199 #[.int .i64 z] w fun e w'=>e = .returned (.bool false)∧w=w':=by
  intro z w;go_enter Tryz.func199,Tryz.ntmps199
  go_wp2
  go_ret;exact⟨by simp,rfl⟩
 have N1:=Lib.hid n1;clear n1;unfold kq;by_cases h:x<y
 ·rw[if_pos h]
  go_enter Tryz.func161,Tryz.ntmps161
  go_wp2_with (go_at_call 199;refine(N1.out _ _).mono ?_;rintro e w' ⟨rfl,rfl⟩)
  go_ret;exact⟨rfl,rfl⟩
 ·rw[if_neg h]
  by_cases h2:y<x
  ·rw[if_pos h2]
   go_enter Tryz.func161,Tryz.ntmps161
   go_wp2_with (go_at_call 199;refine(N1.out _ _).mono ?_;rintro e w' ⟨rfl,rfl⟩)
   go_ret;exact⟨rfl,rfl⟩
  ·rw[if_neg h2]
   go_enter Tryz.func161,Tryz.ntmps161
   go_wp2_with (go_at_call 199;refine(N1.out _ _).mono ?_;rintro e w' ⟨rfl,rfl⟩)
   go_ret;exact⟨rfl,rfl⟩
theorem P0 {P:Program} (w:World) {ops:Array Oper} {rest:List Oper} {o:Oper} {a:Act} {Q:Exit→Act→World→Prop} (hgd:o.guard=none) (s x:Operand) (t:TypeId)
  (ho:o.op = .call { callee:= .builtin .append,args:= #[s,x],argTypes:= #[t,t] })
  (base:Nat) (e:TypeId) (i:TypeInfo) (z:Value) (size bytes:Nat) (ht:P.underlying t=some (.slice e)) (hi:P.info? e=some i) (hz:i.zero=some z)
  (hsize:i.size=size) (hby:i.bytes=bytes) (hzs:z.cells.size=size) (hsz:0<size)
  (v:Value) (n:Nat) (xs:List Value) (hs:a.eval s=v) (hown:w.ownsRow base e size v n xs)
  (ad:Addr) (m c:Nat) (news:List Value) (hx:a.eval x = .slice (some ad) m c) (hl:news.length=m*size) (hnews:∀j u,news[j]? =some u→w.cell? (ad.add j)=some u) (h1:∀u∈news,u.oneCell'=true)
  (h63:n+m≤maxLen) (hbytes:(n+m)*bytes≤140737488355328) (hbase:base≤w.heap.size) (hm:0<m)
  (Pc:Value→Prop) (hall:kw w Pc v) (hnw:∀u∈news,Pc u) (hzc:∀u∈z.cells.toList,Pc u)
  (h:∀v' w',w'.ownsRow base e size v' (n+m) (xs++news)→w.grownBy w' v.ownBlock→kw w' Pc v'→(v'.ownBlock=v.ownBlock∨v'.ownBlock=some w.heap.size)→wpList P ops Q rest (a.put o.dst v') w'):wpList P ops Q (o::rest) a w:=
 wpList_plain hgd fun K hK=>by
  obtain⟨v',w',hr,h2,h3,_,h5⟩:=run_append_own_at (P:=P) w base t o.type e i z size bytes ht hi hz hsize hby hzs hsz v n xs hown ad m c news hl hnews h1 h63 hbytes hbase;have h4:=Vj w base t o.type e i z size bytes ht hi hz hsize hby hzs hsz v n xs hown ad m c news hl hnews h1 h63 hbytes hm Pc hall hnw hzc hr;unfold Oper.wp execOp;simp only[ho,resolve,invoke,builtin,Sem.run_bind,Sem.run_pure,Result.andThen_ok,List.map_toArray,List.map_cons,List.map_nil,hs,hx,hr];exact hK _ _ (h v' w' h2 h3 h4 h5)
def EI (a n r x f g:Int):Prop:=0≤x∧x<r∧r≤n∧Int.gcd r x=Int.gcd a n∧n∣(f*a-r)∧n∣(g*a-x) ∧
 (∃F G:Nat,((f = -(F:Int)∧g=(G:Int))∨(f=(F:Int)∧g = -(G:Int)))∧(G:Int)*r+F*x=n)
theorem EI.start (a n:Int) (hn:1≤n):EI a n n (a%n) 0 1:=by
 refine⟨Qb7 _ (by omega),QbS _ (by omega),by omega,?_,?_,?_,0,1,.inl ⟨by simp,by simp⟩,by simp⟩
 ·rw[Int.emod_def,Int.gcd_sub_mul_left_right,Int.gcd_comm]
 ·simp
 ·rw[Int.one_mul];exact Int.dvd_self_sub_emod
theorem EI.step {a n r x f g:Int} (h:EI a n r x f g) (hx:x≠0):EI a n x (r-r/x*x) g (f-r/x*g):=by
 obtain⟨h0,h1,h2,h3,h4,h5,F,G,hs,hn⟩:=h
 have hm:r-r/x*x=r%x:=by rw[Int.emod_def,Qct]
 have hq:0≤r/x:=Int.ediv_nonneg (by omega) h0;obtain⟨q,hq'⟩:=Qa2 hq;rw[hm];refine⟨Qb7 _ hx,QbS _ (by omega),by omega,?_,h5,?_,G,F+q*G,?_,?_⟩
 ·rw[←hm,Int.gcd_sub_mul_right_right,Int.gcd_comm,h3]
 ·rw[←hm]
  have e:(f-r/x*g)*a-(r-r/x*x)=(f*a-r)-r/x*(g*a-x):=by
   simp only[Int.sub_mul,Int.mul_sub,Int.mul_assoc];omega
  rw[e];exact Int.dvd_sub h4 (Int.dvd_mul_of_dvd_right h5)
 ·rw[hq']
  rcases hs with ⟨rfl,rfl⟩ | ⟨rfl,rfl⟩
  ·right;refine⟨rfl,?_⟩;simp only[QaG,QaM];omega
  ·left;refine⟨rfl,?_⟩;simp only[QaG,QaM,Int.mul_neg];omega
 ·rw[←hm,hq']
  simp only[QaG,QaM,Int.add_mul,Int.mul_sub];rw[←hn,Int.mul_assoc,Int.mul_left_comm (G:Int) q x];omega
theorem EI.bounds {a n r x f g:Int} (h:EI a n r x f g) (hx:x≠0):0≤r/x∧0≤r/x*x∧r/x*x≤n ∧ -n≤r/x*g∧r/x*g≤n ∧ -n≤f∧f≤n ∧ -n≤g∧g≤n:=by
 obtain⟨h0,h1,h2,h3,h4,h5,F,G,hs,hn⟩:=h;have hq:0≤r/x:=Int.ediv_nonneg (by omega) h0;have hqx:r/x*x≤r:=Int.ediv_mul_le r hx
 have hqr:r/x≤r:=by
  have:=Int.ediv_le_self (b:=x) (show (0:Int)≤r by omega);omega
 have hG:(G:Int)*(r/x)≤G*r:=QaX hqr (by omega);have hF0:(0:Int)≤F*x:=QbW (by omega) h0;have hG0:(0:Int)≤G*(r/x):=QbW (by omega) hq
 have hF1:(F:Int)≤F*x:=by have:=QaX (show (1:Int)≤x by omega) (show (0:Int)≤F by omega);omega
 have hG1:(G:Int)≤G*r:=by have:=QaX (show (1:Int)≤r by omega) (show (0:Int)≤G by omega);omega
 have hGr:(0:Int)≤G*r:=by omega
 rcases hs with ⟨rfl,rfl⟩ | ⟨rfl,rfl⟩
 ·rw[Qct (r/x) (G:Int)]
  refine⟨hq,QbW hq h0,?_,?_,?_,?_,?_,?_,?_⟩ <;> omega
 ·rw[Int.mul_neg,Qct (r/x) (G:Int)]
  refine⟨hq,QbW hq h0,?_,?_,?_,?_,?_,?_,?_⟩ <;> omega
theorem EI.last {a n r f g:Int} (h:EI a n r 0 f g):r=Int.gcd a n∧n∣(f*a-Int.gcd a n):=by
 obtain⟨h0,h1,h2,h3,h4,h5,h6⟩:=h
 have:r=Int.gcd a n:=by rw[←h3,Int.gcd_zero_right];omega
 rw[←this];exact⟨rfl,h4⟩
theorem Cf {a n f:Int} (h:n∣(f*a-(1:Nat))):n∣(f%n*a-1):=by
 rw[Int.emod_def,Int.sub_mul,Int.mul_assoc]
 have:f*a-n*(f/n*a)-1=(f*a-(1:Nat))-n*(f/n*a):=by omega
 rw[this];exact Int.dvd_sub h (Int.dvd_mul_right ..)
theorem WE (a n:Int) (w:World) (hn:1≤n) (hn2:n≤1000000000000000000):
  Calls Tryz.prog 53 #[.int .i64 a,.int .i64 n] w fun e w'=>(∃k,w'=w.drewN k) ∧
   ((Int.gcd a n=1 ∧ ∃x:Int,e = .returned (.tuple #[.int .i64 x,.bool true])∧0≤x∧x<n∧n∣(x*a-1)) ∨
    (Int.gcd a n≠1∧e = .returned (.tuple #[.int .i64 0,.bool false]))):=by
 have hst:=Lib.hid (EI.start a n hn);go_enter Tryz.func53,Tryz.ntmps53
 go_wp2_with (go_at_call 99;refine(QS _ _ _ hn (by omega)).mono ?_;rintro e w' ⟨rfl,rfl⟩)
 go_loopw [6,7,8,9] (fun u v p q wr=>∃(r x f g:Int) (k:Nat),u = .int .i64 r∧v = .int .i64 x∧p = .int .i64 f∧q = .int .i64 g∧Hid (EI a n r x f g)∧wr=w.drewN k) (fun _ v _ _ _=>(intOf v).toNat)
 case atStart=>exact⟨n,a%n,0,1,0,rfl,rfl,rfl,rfl,hst,rfl⟩
 case round=>
  obtain⟨r,x,f,g,k,rfl,rfl,rfl,rfl,hE,rfl⟩:=hrel;have hx0:0≤x:=hE.out.1;have hrx:x<r:=hE.out.2.1;have hrn:r≤n:=hE.out.2.2.1;by_cases hx:x=0
  ·subst hx
   obtain⟨he,hd⟩:=hE.out.last;have He:=Lib.hid he;clear he;by_cases hr:r=1
   ·subst hr
    go_wp2_with (go_at_call 99;refine(QS _ _ _ hn (by omega)).mono ?_;rintro e w' ⟨rfl,rfl⟩)
    go_ret2
    have h1:Int.gcd a n=1:=by have:=He.out;omega
    refine⟨⟨k,rfl⟩,.inl ⟨h1,f%n,rfl,Qb7 _ (by omega),QbS _ (by omega),?_⟩⟩;rw[h1] at hd;exact Cf hd
   ·have hb:(r != 1)=true:=by simpa using hr
    go_wp2
    go_ret2;exact⟨⟨k,rfl⟩,.inr ⟨fun h1=>hr (by have:=He.out;omega),rfl⟩⟩
  ·have hb:(x != 0)=true:=by simpa using hx
   obtain⟨b1,b2,b3,b4,b5,b6,b7,b8,b9⟩:=hE.out.bounds hx
   go_wp2
   have hs:=hE.out.step hx;refine⟨⟨x,r-r/x*x,g,f-r/x*g,k,rfl,rfl,rfl,rfl,Lib.hid hs,rfl⟩,?_⟩;have:=hs.1;have:=hs.2.1;simp[intOf];omega
theorem Cv {m d:Int} (hd:2≤d) (hle:m/d<d) (h:∀e:Int,2≤e→e<d→m%e≠0) (x:Int) (hx:2≤x) (hxm:x<m):m%x≠0:=by
 intro hz;by_cases hxd:x<d
 ·exact h x hx hxd hz
 ·obtain⟨q,hq⟩:=Int.dvd_of_emod_eq_zero hz
  have hq1:1<q:=by
   rcases Int.lt_or_le 1 q with h1 | h1
   ·exact h1
   ·have:=QaX h1 (show (0:Int)≤x by omega);omega
  have hqd:q<d:=by
   rcases Int.lt_or_le q d with h1 | h1
   ·exact h1
   ·have h2:d≤m/d:=by
     rw[Int.le_ediv_iff_mul_le (by omega)];have a1:=QaX h1 (show (0:Int)≤x by omega);have a2:=QbP (show d≤x by omega) (show (0:Int)≤d by omega);omega
    omega
  refine h q (by omega) hqd ?_;rw[hq];exact Int.mul_emod_left x q
def yX (m:Int):Prop:=2≤m ∧ ∀d:Int,2≤d→d<m→m%d≠0
def Fx (m:Int) (w:World) (e:Ending) (w':World):Prop:=∃b:Bool,e = .returned (.bool b)∧(b=true↔yX m)∧w=w'
theorem Aj (m:Int) (w:World) (h1:0≤m) (h2:m≤999999999):
  Calls Tryz.prog 147 #[.int .i64 m] w (Fx m w):=by
 by_cases hm:m<2
 ·go_enter Tryz.func147,Tryz.ntmps147
  go_wp2
  go_ret;exact⟨false,rfl,by unfold yX;simp;omega,rfl⟩
 ·go_enter Tryz.func147,Tryz.ntmps147
  go_wp2
  go_loop [3] (fun u=>∃d:Int,u = .int .i64 d∧2≤d∧d≤m∧Hid (∀e:Int,2≤e→e<d→m%e≠0)) (fun u=>(m-intOf u).toNat)
  case atStart=>exact⟨2,rfl,by omega,by omega,Lib.hid (fun e h3 h4=>by omega)⟩
  case round=>
   obtain⟨d,rfl,h3,h4,h5⟩:=hrel;have hdd:=Int.mul_ediv_self_le (x:=m) (k:=d) (by omega);by_cases hle:d≤m/d
   ·have hdm:d<m:=by
     have:=QaX hle (show (0:Int)≤d by omega);have:=QaX h3 (show (0:Int)≤d by omega);omega
    by_cases hz:m%d=0
    ·have hb:(m%d==0)=true:=by simpa using hz
     have Hz:=Lib.hid hz;clear hz
     go_wp2
     go_ret;exact⟨false,rfl,by simp;intro hp;exact hp.2 d h3 hdm Hz.out,rfl⟩
    ·go_wp2
     refine⟨⟨d+1,rfl,by omega,by omega,Lib.hid fun e he1 he2=> ?_⟩,by simp[intOf];omega⟩;by_cases e=d
     ·subst e;exact hz
     ·exact h5.out e he1 (by omega)
   ·go_wp2
    go_ret;exact⟨true,rfl,by simp;exact⟨by omega,fun x hx hxm=>Cv h3 (by omega) h5.out x hx hxm⟩,rfl⟩
def qp:List Int→Int
 | []=>0
 | x::r=>if x=0 then qp r else x
def je (xs:List Int):List Value:=xs.map fun x=>Value.int .i64 x
theorem DM (v:Value) (xs:List Int) (w:World) (hv:Sl w 1 v (je xs)):
  Calls Tryz.prog 48 #[v] w fun e w'=>e = .returned (.int .i64 (qp xs))∧w=w':=by
 obtain⟨A,c,rfl,hc1,hc2⟩:=hv.form
 have hl:(je xs).length=xs.length:=by simp[je]
 rw[hl] at hc1 hv ⊢;go_enter Tryz.func48,Tryz.ntmps48
 go_wp2
 go_loop [4,7] (fun _ u=>∃k:Nat,u = .int .i64 k∧k≤xs.length∧Hid (qp (xs.drop k)=qp xs)) (fun _ u=>xs.length-(intOf u).toNat)
 case atStart=>exact⟨0,rfl,by omega,Lib.hid rfl⟩
 case round=>
  obtain⟨k,rfl,hk,hf⟩:=hrel;by_cases hlt:k<xs.length
  ·obtain⟨b,off,rfl,hb,hcell⟩:=hv.at_ (k:=k) (by omega)
   have hck:=hcell k (by omega);rw[je,Qao,Qaa hlt] at hck;simp only[QaC] at hck;clear hcell hv;have hd:xs.drop k=xs[k]::xs.drop (k+1):=QaF hlt;have Hd:=Lib.hid hd;clear hd;by_cases hz:xs[k]=0
   ·have hz':(xs[k] != 0)=false:=by simpa using hz
    have Hz:=Lib.hid hz;clear hz
    go_wp2
    refine⟨⟨k+1,by go_num,by omega,Lib.hid ?_⟩,by simp[intOf];omega⟩;rw[←hf.out,Hd.out];simp[qp,Hz.out]
   ·have hz':(xs[k] != 0)=true:=by simpa using hz
    go_wp2
    go_ret;refine⟨JK ?_,rfl⟩;rw[←hf.out,Hd.out];simp[qp,hz]
  ·have:k=xs.length:=by omega
   subst this
   go_wp2
   go_ret;exact⟨JK (by rw[←hf.out];simp[qp]),rfl⟩
def Nt (w:World) (v:Value) (x:Nat):Prop:=∃ws,jd ws=x∧jJ ws∧kp ws∧Sl w 1 v (jz ws)
section
variable {w w':World} {v:Value} {x:Nat}
theorem Nt.below (h:Nt w v x) (hb:Below w.heap.size w w'):Nt w' v x:=by
 obtain⟨ws,h1,h2,h3,h4⟩:=h;exact⟨ws,h1,h2,h3,h4.below hb⟩
theorem Nt.drewN (h:Nt w v x) (k:Nat):Nt (w.drewN k) v x:=h
theorem Nt.nil:Nt w (.slice none 0 0) 0:=⟨[],rfl,PY,rfl,Sl.nil⟩
theorem Nt.open_ (h:Nt w v x):∃ws A c,v = .slice A ws.length c∧jd ws=x∧jJ ws∧kp ws∧ws.length≤c∧c≤140737488355328∧Sl w 1 (.slice A ws.length c) (jz ws):=by
 obtain⟨ws,h1,h2,h3,h4⟩:=h;obtain⟨A,c,rfl,h5,h6⟩:=h4.form;rw[jB] at h5 h4 ⊢;exact⟨ws,A,c,rfl,h1,h2,h3,h5,h6,h4⟩
end
theorem Nt.of_trim {w:World} {A:Option Addr} {c:Nat} {ws:List Nat} (hok:jJ ws) (h:Sl w 1 (.slice A (jH ws).length c) (jz (jH ws))):Nt w (.slice A (jH ws).length c) (jd ws):=
 ⟨jH ws,Ic ws,P9 hok,YJ ws,h⟩
theorem zP (A:Option Addr) (n c:Nat) (ws:List Nat) (w:World) (hok:jJ ws) (hv:Sl w 1 (.slice A n c) (jz ws)):
  Calls Tryz.prog 104 #[.slice A n c] w fun e w'=>∃v,e = .returned v∧Nt w v (jd ws)∧w=w':=by
 have hn:n=ws.length:=by
  obtain⟨A',c',h,_⟩:=hv.form;rw[jB] at h;simp at h;exact h.2.1
 subst hn
 exact(UO A c ws w hv).mono fun e w' ⟨h1,h2,h3⟩=>⟨_,h1,Nt.of_trim hok h2,h3⟩
theorem Ka (x:Nat) (w:World) (hx:x<18446744073709551616):
  Calls Tryz.prog 97 #[.int .u64 x] w fun e w'=>∃v,e = .returned v∧Nt w' v x∧Below w.heap.size w w':=by
 have hs:=Lib.hid (Sl.lit w 89 #[.int .u64 x] 1 rfl (by omega));go_enter Tryz.func97,Tryz.ntmps97
 go_wp2_with fail
 refine(UO _ _ [x] _ hs.out).mono ?_;rintro e w' ⟨rfl,h,rfl⟩
 go_wp2
 go_ret;exact⟨_,rfl,(by have:=Nt.of_trim (EZ.2 hx) h;simpa [jd] using this),(Below.refl _ _).alloc (Nat.le_refl _) _⟩
theorem qf (v:Value) (x:Nat) (w:World) (h:Nt w v x):
  Calls Tryz.prog 58 #[v] w fun e w'=>e = .returned (.bool (decide (x=1)))∧w=w':=by
 obtain⟨ws,A,c,rfl,h1,h2,h3,hc1,hc2,hs⟩:=h.open_
 have hone:∀y,ws=[y]→x=y:=fun y hy=>by subst hy;simpa [jd] using h1.symm
 by_cases hl:ws.length=1
 ·obtain⟨y,rfl⟩:=List.length_eq_one_iff.1 hl
  have hxy:=hone y rfl;subst hxy;obtain⟨b,off,rfl,hb,hcell⟩:=hs.at_ (k:=0) (by simp[jz])
  have hck:w.cell? ⟨b,off,none⟩=some (Value.int .u64 (x:Int)):=by simpa [jz] using hcell 0 (by simp[jz])
  clear hcell hs h hone h1;by_cases hx:x=1
  ·subst hx
   go_enter Tryz.func58,Tryz.ntmps58
   go_wp2
   go_ret;exact⟨rfl,rfl⟩
  ·have hb2:((x:Int)==1)=false:=by simpa using (by omega:¬(x:Int)=1)
   have hd:=Lib.hid (Qat hx);go_enter Tryz.func58,Tryz.ntmps58
   go_wp2
   go_ret;exact⟨by rw[hd.out];rfl,rfl⟩
 ·have hx:¬x=1:=by
   intro hx;have h4:ws.length≤1:=K8 h3 (n:=1) (by rw[h1,hx];decide);have h5:ws=[]:=List.length_eq_zero_iff.1 (by omega);subst h5;simp[jd] at h1;omega
  have hb2:((ws.length:Int)==1)=false:=by simpa using (by omega:¬(ws.length:Int)=1)
  have hd:=Lib.hid (Qat hx);clear hs h hone;go_enter Tryz.func58,Tryz.ntmps58
  go_wp2
  go_ret;exact⟨by rw[hd.out];rfl,rfl⟩
theorem xq (v u:Value) (x y:Nat) (w:World) (h:Nt w v x) (h':Nt w u y):
  Calls Tryz.prog 125 #[v,u] w fun e w'=>e = .returned (.int .i64 (kq x y)) ∧ ∃n,w'=w.drewN n:=by
 obtain⟨ws,A,c,rfl,h1,h2,h3,hc1,hc2,hs⟩:=h.open_;obtain⟨us,B,d,rfl,g1,g2,g3,gc1,gc2,gs⟩:=h'.open_;subst h1 g1;by_cases hl:ws.length=us.length
 ·have hb:((ws.length:Int) != (us.length:Int))=false:=by rw[hl];simp
  have Hl:=Lib.hid hl;clear hl;go_enter Tryz.func125,Tryz.ntmps125
  go_wp2
  go_loopw [5] (fun i wr=>∃(k n:Nat),i = .int .i64 ((k:Int)-1)∧k≤ws.length∧Hid (ws.drop k=us.drop k)∧wr=w.drewN n) (fun i _=>(intOf i+1).toNat)
  case atStart=>exact⟨ws.length,0,rfl,by omega,Lib.hid (by simp[Hl.out]),rfl⟩
  case round=>
   obtain⟨k,n,rfl,hk,hd,rfl⟩:=hrel;by_cases hk0:k=0
   ·subst hk0
    have he:ws=us:=by simpa using hd.out
    have ho:kq (jd ws) (jd us)=0:=by rw[he];simp[kq]
    have Ho:=Lib.hid ho;clear he ho
    go_wp2
    go_ret;exact⟨by rw[Ho.out];rfl,n,rfl⟩
   ·obtain⟨j,rfl⟩:∃j,k=j+1:=⟨k-1,by omega⟩
    have hj2:j<us.length:=by have:=Hl.out;omega
    obtain⟨b,off,rfl,hbb,hcell⟩:=hs.at_ (k:=j) (by rw[jB];omega);obtain⟨b',off',rfl,hbb',hcell'⟩:=gs.at_ (k:=j) (by rw[jB];omega);have hck:=hcell j (by rw[jB];omega);have hck':=hcell' j (by rw[jB];omega);rw[UR ws j (by omega)] at hck;rw[UR us j (by omega)] at hck'
    have Hlt:=fun hlt=>Lib.hid (Re h2 Hl.out j (by omega) hd.out hlt)
    have Hgt:=fun hlt=>Lib.hid (Re g2 Hl.out.symm j (by omega) hd.out.symm hlt)
    have Hdj:Hid (ws[j]?.getD 0=us[j]?.getD 0→ws.drop j=us.drop j):=by
     apply Lib.hid;intro e;rw[QaF (by omega:j<ws.length),QaF hj2,hd.out]
     congr 1
     simpa [List.getElem?_eq_getElem (by omega:j<ws.length),List.getElem?_eq_getElem hj2] using e
    generalize ws[j]?.getD 0=p at *;generalize us[j]?.getD 0=q at *;clear hcell hcell' hs gs h h'
    have ej:((j+1:Nat):Int)-1=(j:Int):=by omega
    rw[ej];by_cases hpq:p=q
    ·subst hpq
     go_wp2
     go_quiet (fail)
     go_wp2
     refine⟨⟨j,n+nq,rfl,by omega,Lib.hid (Hdj.out trivial),by simp⟩,by simp[intOf]⟩
    ·have hne:((p:Int) != (q:Int))=true:=by simpa using (by omega:¬(p:Int)=q)
     have Ho:Hid (kq p q=kq (jd ws) (jd us)):=by
      apply Lib.hid;unfold kq;rcases Nat.lt_or_gt_of_ne hpq with hlt | hlt
      ·rw[if_pos hlt,if_pos (Hlt hlt).out]
      ·have:=(Hgt hlt).out
       rw[if_neg (by omega),if_pos hlt,if_neg (by omega),if_pos this]
     clear Hlt Hgt Hdj
     go_wp2
     go_quiet (fail)
     go_wp2
     have hck2:((w.drewN n).drewN nq).cell? ⟨b,off+j,none⟩=some (Value.int .u64 (p:Int)):=hck;have hck3:((w.drewN n).drewN nq).cell? ⟨b',off'+j,none⟩=some (Value.int .u64 (q:Int)):=hck'
     have Hw2:Hid (∃m,(w.drewN n).drewN nq=w.drewN m):=⟨n+nq,World.drewN_drewN _ _ _⟩
     clear hck hck';generalize (w.drewN n).drewN nq=w2 at *
     go_big_quiet ((go_at_call 162;exact FM (T8 _ _ _)))
     go_wp2
     go_ret;obtain⟨m,rfl⟩:=Hw2;exact⟨JK Ho.out,m+nq,by simp⟩
 ·have hb:((ws.length:Int) != (us.length:Int))=true:=by simpa using (by omega:¬(ws.length:Int)=us.length)
  have Ho:Hid (kq ws.length us.length=kq (jd ws) (jd us)):=by
   apply Lib.hid;unfold kq;rcases Nat.lt_or_gt_of_ne hl with hlt | hlt
   ·rw[if_pos hlt,if_pos (Qb h2 g3 hlt)]
   ·have:=Qb g2 h3 hlt
    rw[if_neg (by omega),if_pos hlt,if_neg (by omega),if_pos this]
  go_enter Tryz.func125,Tryz.ntmps125
  go_wp2_with (go_at_call 161;refine(T7 _ _ _).mono ?_;rintro e w' ⟨rfl,rfl⟩)
  go_ret;exact⟨JK Ho.out,0,rfl⟩
def ja (w:World) (g:Nat) (t:TypeId) (cs:List Value):Prop:=w.heap[g]? =some (.cells cs.toArray t (0,0))
section
variable {w w':World} {g:Nat} {t:TypeId} {cs:List Value}
theorem ja.lt (h:ja w g t cs):g<w.heap.size:=by
 rcases Qae g w.heap.size with hlt | hge
 ·exact hlt
 ·unfold ja at h;rw[Array.getElem?_eq_none hge] at h;cases h
theorem ja.cell (h:ja w g t cs) (i:Nat):w.cell? ⟨g,i,none⟩=cs[i]? :=by
 rw[cell_of_row w g i cs.toArray t (0,0) h];simp
theorem ja.free (h:ja w g t cs) (i:Nat):w.frozen? ⟨g,i,none⟩=false:=by
 unfold ja at h;simp[World.frozen?,h]
theorem ja.make (w:World) (t:TypeId) (cs:List Value):ja (w.alloc (.cells cs.toArray t)) w.heap.size t cs:=heap_alloc_new w _
theorem ja.drewN (h:ja w g t cs) (n:Nat):ja (w.drewN n) g t cs:=h
theorem ja.alloc (h:ja w g t cs) (o:Obj):ja (w.alloc o) g t cs:=(Below.heap_alloc w o g h.lt).trans h
theorem ja.put (h:ja w g t cs) (i:Nat) (u:Value):ja (w.setCell ⟨g,i,none⟩ u) g t (cs.set i u):=by
 unfold ja at h ⊢;simp[World.setCell,Array.getElem?_modify,h]
theorem ja.other (h:ja w g t cs) {p:Addr} (hp:g≠p.block) (u:Value):ja (w.setCell p u) g t cs:=(Below.heap_setCell w p u g hp).trans h
theorem ja.below {B:Nat} (h:ja w g t cs) (hb:Below B w w') (hg:g<B):ja w' g t cs:=(hb.block g hg).trans h
theorem ja.sl (h:ja w g t cs) (n:Nat) (hn:cs.length=n) (hs:n≤140737488355328):Sl w 1 (.slice (some ⟨g,0,none⟩) n n) cs:=by
 refine⟨_,n,n,rfl,by omega,hs,by omega,fun _=>⟨g,0,rfl,h.lt,fun j u hu=> ?_⟩⟩;rw[Qbi,h.cell,hu]
end
theorem JG (z:Value) (n:Nat):madeCells #[z] n=(List.replicate n z).toArray:=by
 rw[←toList_madeCells_one]
theorem L7 (n:Nat):List.replicate n (Value.int .u64 0)=jz (List.replicate n 0):=by simp[jz]
theorem kN (L:List Nat) (k x:Nat):(jz L).set k (.int .u64 (x:Int))=jz (L.set k x):=by simp[jz,List.map_set]
theorem jP (ws:List Nat) (k:Nat) (h:k<ws.length):(jz ws)[k]? =some (Value.int .u64 ((ws[k]?.getD 0:Nat):Int)):=by simp[jz,h]
theorem AH:(Tryz.prog.info? 89).map (fun i=>(i.zero,i.size,i.bytes))=some (some (.int .u64 0),1,8):=by kernel_rfl
theorem yK (w:World) (n:Nat) (hn:n≤17592186044416):(Instr.makeSlice 67 (.int .i64 (n:Int)) (.int .i64 (n:Int))).run Tryz.prog w = .ok (.slice (some ⟨w.heap.size,0,none⟩) n n) (w.alloc (.cells (jz (List.replicate n 0)).toArray 89)):=by
 have:=run_make_row' (P:=Tryz.prog) 67 89 (.int .u64 0) 8 Tryz.underlying67 AH rfl .i64 .i64 n (by omega) (by omega) w;rw[JG,L7] at this;exact this
theorem UK (x y b:Nat) (hx:x<WB) (hy:y<WB) (hb:b≤1):
  ∃d br:Nat,((x:Int)-y-b)%18446744073709551616=d∧zB x ((y:Int)+b)=br∧d<WB∧br≤1∧x+WB*br=d+y+b:=by
 unfold WB at *;refine⟨(((x:Int)-y-b)%18446744073709551616).toNat,if (x:Int)<y+b then 1 else 0,by omega,?_,by omega,?_,?_⟩
 ·unfold zB;split <;> rfl
 ·split <;> omega
 ·split <;> omega
theorem En (x b:Nat) (hx:x<WB) (hb:b≤1):
  ∃d br:Nat,((x:Int)-b)%18446744073709551616=d∧zB x (b:Int)=br∧d<WB∧br≤1∧x+WB*br=d+0+b:=by
 have:=UK x 0 b hx (by decide) hb;simpa using this
theorem YS (x y c:Nat) (hx:x<WB) (hy:y<WB) (hb:c≤1):
  ∃d k:Nat,((x:Int)+y+c)%18446744073709551616=d∧((x:Int)+y+c)/18446744073709551616=k∧d<WB∧k≤1∧x+y+c=d+WB*k:=by
 unfold WB at *;exact⟨(x+y+c)%18446744073709551616,(x+y+c)/18446744073709551616,by omega,by omega,by omega,by omega,by omega⟩
theorem Kx (x c:Nat) (hx:x<WB) (hb:c<WB):
  ∃d k:Nat,((x:Int)+c)%18446744073709551616=d∧((x:Int)+c)/18446744073709551616=k∧d<WB∧k≤1∧x+c=d+WB*k:=by
 unfold WB at *;exact⟨(x+c)%18446744073709551616,(x+c)/18446744073709551616,by omega,by omega,by omega,by omega,by omega⟩
@[irreducible] def zG:Nat:=8000000000000
theorem XP:zG≤8000000000000:=by unfold zG;exact Nat.le_refl _
theorem Wl:8000000000000≤zG:=by unfold zG;exact Nat.le_refl _
def kr (x:Nat):Prop:=x<WB^zG
structure JQ:Prop where
 div:RG
 long:∀(v u:Value) (x y:Nat) (w:World),Nt w v x→Nt w u y→WB≤y→y≤x→kr x →
  Calls Tryz.prog 164 #[v,u] w fun e w'=>∃q r,e = .returned (.tuple #[q,r])∧Nt w' q (x/y)∧Nt w' r (x%y)∧Below w.heap.size w w'
 gcd:∀(v u:Value) (x y:Nat) (w:World),Nt w v x→Nt w u y→WB≤x→WB≤y→kr x→kr y →
  Calls Tryz.prog 81 #[v,u] w fun e w'=>∃g,e = .returned g∧Nt w' g (Nat.gcd x y)∧Below w.heap.size w w'
def jp (x:Nat):Prop:=x<WB∨(JQ∧kr x)
theorem jp.small {x:Nat} (h:x<WB):jp x:= .inl h
theorem jp.big {x:Nat} (h:jp x):kr x:=by
 rcases h with h | h
 ·have h1:WB^1≤WB^zG:=Qai (by decide) (Qap (by decide) Wl)
  rw[Qbc] at h1;exact Qac h h1
 ·exact h.2
theorem jp.deep {x:Nat} (h:jp x) (hx:WB≤x):JQ:=by
 rcases h with h | h
 ·omega
 ·exact h.1
theorem jp.le {x y:Nat} (h:jp x) (hle:y≤x):jp y:=by
 rcases h with h | h
 ·exact .inl (Qax hle h)
 ·exact .inr ⟨h.1,Qax hle h.2⟩
theorem jp.len {ws:List Nat} (h:kp ws) {x:Nat} (hx:jd ws=x) (hf:jp x):ws.length≤8000000000000:=
 Qap (K8 h (by rw[hx];exact hf.big)) XP
theorem jp.words {ws:List Nat} (h:kp ws) {x:Nat} (hx:jd ws=x) (hf:jp x):ws.length≤1∨JQ:=by
 rcases hf with hf | hf
 ·exact .inl (K8 h (n:=1) (by rw[hx,Qbc];exact hf))
 ·exact .inr hf.1
def qI (n:Nat):Prop:=n≤19∨JQ
theorem qI.le {n m:Nat} (h:qI n) (hm:m≤n):qI m:=by
 rcases h with h | h
 ·exact .inl (by omega)
 ·exact .inr h
theorem jp.of_pow {x k:Nat} (h:x<10^k) (hd:qI k) (hk:k≤8000000000000):jp x:=by
 rcases hd with hd | hd
 ·refine .inl (Qac h ?_)
  have:10^k≤10^19:=Qai (by decide) hd;exact Qap this (by decide)
 ·refine .inr ⟨hd,?_⟩
  have h1:10^k≤WB^k:=Nat.pow_le_pow_left (by decide) k;have h2:WB^k≤WB^zG:=Qai (by decide) (Qap hk Wl);exact Qac h (Qap h1 h2)
theorem NH (hi lo y q r:Nat) (w:World) (hd:hi=0∨JQ) (h1:hi<y) (h2:lo<WB) (h3:y<WB) (h4:hi*WB+lo=q*y+r) (h5:r<y):
  Calls Tryz.prog 144 #[.int .u64 hi,.int .u64 lo,.int .u64 y] w fun e w'=>e = .returned (.tuple #[.int .u64 q,.int .u64 r]) ∧ ∃n,w'=w.drewN n:=by
 rcases hd with rfl | hd
 ·exact VR lo y q r w h2 (by omega) h5
 ·exact hd.div hi lo y q r w h1 h2 h3 h4 h5
theorem Gk (v u:Value) (x y:Nat) (w:World) (h:Nt w v x) (h':Nt w u y) (hle:y≤x) (hf:jp x):
  Calls Tryz.prog 184 #[v,u] w fun e w'=>∃v,e = .returned v∧Nt w' v (x-y)∧Below w.heap.size w w':=by
 obtain⟨xs,A,c,rfl,h1,h2,h3,hc1,hc2,hs⟩:=h.open_;obtain⟨bs,B,d,rfl,g1,g2,g3,gc1,gc2,gs⟩:=h'.open_;have hlen:=jp.len h3 h1 hf;subst h1 g1
 have hbl:bs.length≤xs.length:=by
  rcases Qae xs.length bs.length with hl | hl
  ·have:=Qb h2 g3 hl;omega
  ·exact hl
 have hmk:=yK w xs.length (by omega);clear h h';go_enter Tryz.func184,Tryz.ntmps184
 go_wp2
 go_loopw [6,7,8,15] (fun br _ _ i wr=>∃(k b:Nat) (L:List Nat),i = .int .i64 k∧br = .int .u64 b∧k≤bs.length∧Hid (xo xs bs L k b)∧ja wr w.heap.size 89 (jz L)∧Below w.heap.size w wr) (fun _ _ _ i _=>bs.length-(intOf i).toNat)
 case atStart=>exact⟨0,0,_,rfl,rfl,by omega,Lib.hid (xo.start xs bs),ja.make _ _ _,(Below.refl _ _).alloc (Nat.le_refl _) _⟩
 case round=>
  obtain⟨k,b,L,rfl,rfl,hk,hI,hO,hB⟩:=hrel;have hb1:b≤1:=hI.out.2.2.1;have hLl:L.length=xs.length:=hI.out.1;by_cases hlt:k<bs.length
  ·obtain⟨b0,off,rfl,hbb,hcell⟩:=hs.at_ (k:=k) (by rw[jB];omega)
   obtain⟨b1,off1,rfl,hbb1,hcell1⟩:=gs.at_ (k:=k) (by rw[jB];omega);have hck:=(hB.cell (p:=⟨b0,off+k,none⟩) hbb).trans ((hcell k (by rw[jB];omega)).trans (jP xs k (by omega)));have hck1:=(hB.cell (p:=⟨b1,off1+k,none⟩) hbb1).trans ((hcell1 k (by rw[jB];omega)).trans (jP bs k (by omega)));have hck2:=(hO.cell k).trans (jP L k (by omega));have hfr:=hO.free k;have hwx:=ka h2 k;have hwy:=ka g2 k
   have Hst:=fun d br' a1 a2 a3=>Lib.hid (xo.step hI.out (d:=d) (br':=br') (by omega) a1 a2 a3)
   generalize xs[k]?.getD 0=x at *;generalize bs[k]?.getD 0=y at *;generalize L[k]?.getD 0=z at *;clear hcell hcell1 hs gs hLl;unfold WB at hwx hwy
   have hlk:k<xs.length:=by omega
   go_wp2_with (first | simp only[Yt (x:Int) (y:Int) (b:Int) (by omega) (by omega) (by omega) (by omega) (by omega) (by omega)])
   obtain⟨d,br,e1,e2,a1,a2,a3⟩:=UK x y b hwx hwy hb1;rw[e1,e2];refine⟨⟨k+1,br,_,by go_num,rfl,by omega,Hst d br a1 a2 a3,?_,hB.setCell (by simp) _⟩,by simp[intOf];omega⟩;rw[←kN];exact hO.put k _
  ·have hkk:k=bs.length:=by omega
   subst hkk
   go_wp2
   go_loopw [6,9] (fun br i wr=>∃(k b:Nat) (L:List Nat),i = .int .i64 k∧br = .int .u64 b∧bs.length≤k∧k≤xs.length∧Hid (xo xs bs L k b)∧ja wr w.heap.size 89 (jz L)∧Below w.heap.size w wr) (fun _ i _=>xs.length-(intOf i).toNat)
   case atStart=>exact⟨bs.length,b,L,rfl,rfl,by omega,by omega,hI,hO,hB⟩
   case round=>
    clear hI hO hB hb1 hLl;obtain⟨k,b,L,rfl,rfl,hk1,hk,hI,hO,hB⟩:=hrel;have hb1:b≤1:=hI.out.2.2.1;have hLl:L.length=xs.length:=hI.out.1;by_cases hlt:k<xs.length
    ·obtain⟨b0,off,rfl,hbb,hcell⟩:=hs.at_ (k:=k) (by rw[jB];omega)
     have hck:=(hB.cell (p:=⟨b0,off+k,none⟩) hbb).trans ((hcell k (by rw[jB];omega)).trans (jP xs k (by omega)));have hck2:=(hO.cell k).trans (jP L k (by omega));have hfr:=hO.free k;have hwx:=ka h2 k
     have hz:bs[k]?.getD 0=0:=by rw[Qah (by omega)];rfl
     have Hst:=fun d br' a1 a2 a3=>Lib.hid (xo.step hI.out (d:=d) (br':=br') (by omega) a1 a2 a3)
     rw[hz] at Hst;clear hz;generalize xs[k]?.getD 0=x at *;generalize L[k]?.getD 0=z at *;clear hcell hs gs hLl;unfold WB at hwx
     go_wp2_with (first | simp only[Ek (x:Int) (b:Int) (by omega) (by omega) (by omega) (by omega)])
     obtain⟨d,br,e1,e2,a1,a2,a3⟩:=En x b hwx hb1;rw[e1,e2];refine⟨⟨k+1,br,_,by go_num,rfl,by omega,by omega,Hst d br a1 a2 a3,?_,hB.setCell (by simp) _⟩,by simp[intOf];omega⟩;rw[←kN];exact hO.put k _
    ·have hkk:k=xs.length:=by omega
     subst hkk;have hval:=Lib.hid (hI.out.last hbl hle);have hok:=hI.out.2.1;have hsl:=hO.sl xs.length (by rw[jB];omega) (by omega)
     go_wp2_with (go_at_call 104;refine(zP _ _ _ _ _ hok hsl).mono ?_;rintro e w' ⟨v,rfl,hv,rfl⟩)
     go_ret;refine⟨v,rfl,?_,hB⟩;rw[←hval.out];exact hv
theorem Fo (v u:Value) (x y:Nat) (xs bs:List Nat) (A B:Option Addr) (c d:Nat) (w:World) (hv:v = .slice A xs.length c) (hu:u = .slice B bs.length d) (h1:jd xs=x) (h2:jJ xs) (g1:jd bs=y) (g2:jJ bs)
  (hs:Sl w 1 (.slice A xs.length c) (jz xs)) (gs:Sl w 1 (.slice B bs.length d) (jz bs)) (hbl:bs.length≤xs.length) (hlen:xs.length≤8000000000000):
  Calls Tryz.prog 183 #[v,u] w fun e w'=>∃v,e = .returned v∧Nt w' v (x+y)∧Below w.heap.size w w':=by
 subst hv hu h1 g1;have hmk:=yK w (xs.length+1) (by omega);rw[show ((xs.length+1:Nat):Int)=(xs.length:Int)+1 from by omega] at hmk
 have hdl:decide (xs.length<bs.length)=false:=by simpa using hbl
 go_enter Tryz.func183,Tryz.ntmps183
 go_wp2
 go_loopw [6,7,8,23] (fun cr _ _ i wr=>∃(k b:Nat) (L:List Nat),i = .int .i64 k∧cr = .int .u64 b∧k≤bs.length∧Hid (xl xs bs L k b)∧ja wr w.heap.size 89 (jz L)∧Below w.heap.size w wr) (fun _ _ _ i _=>bs.length-(intOf i).toNat)
 case atStart=>exact⟨0,0,_,rfl,rfl,by omega,Lib.hid (xl.start xs bs),ja.make _ _ _,(Below.refl _ _).alloc (Nat.le_refl _) _⟩
 case round=>
  obtain⟨k,b,L,rfl,rfl,hk,hI,hO,hB⟩:=hrel;have hb1:b≤1:=hI.out.2.2.1;have hLl:L.length=xs.length+1:=hI.out.1;by_cases hlt:k<bs.length
  ·obtain⟨b0,off,rfl,hbb,hcell⟩:=hs.at_ (k:=k) (by rw[jB];omega)
   obtain⟨b1,off1,rfl,hbb1,hcell1⟩:=gs.at_ (k:=k) (by rw[jB];omega);have hck:=(hB.cell (p:=⟨b0,off+k,none⟩) hbb).trans ((hcell k (by rw[jB];omega)).trans (jP xs k (by omega)));have hck1:=(hB.cell (p:=⟨b1,off1+k,none⟩) hbb1).trans ((hcell1 k (by rw[jB];omega)).trans (jP bs k (by omega)));have hck2:=(hO.cell k).trans (jP L k (by omega));have hfr:=hO.free k;have hwx:=ka h2 k;have hwy:=ka g2 k
   have Hst:=fun d br' a1 a2 a3=>Lib.hid (xl.step hI.out (d:=d) (c':=br') (by omega) a1 a2 a3)
   generalize xs[k]?.getD 0=x at *;generalize bs[k]?.getD 0=y at *;generalize L[k]?.getD 0=z at *;clear hcell hcell1 hs gs hLl;unfold WB at hwx hwy
   have hlk:k<xs.length:=by omega
   go_wp2_with (first | simp only[Qh (x:Int) (y:Int) (b:Int) (by omega) (by omega) (by omega) (by omega) (by omega) (by omega)])
   obtain⟨d,br,e1,e2,a1,a2,a3⟩:=YS x y b hwx hwy hb1;rw[e1,e2];refine⟨⟨k+1,br,_,by go_num,rfl,by omega,Hst d br a1 a2 a3,?_,hB.setCell (by simp) _⟩,by simp[intOf];omega⟩;rw[←kN];exact hO.put k _
  ·have hkk:k=bs.length:=by omega
   subst hkk
   go_wp2
   go_loopw [6,9] (fun br i wr=>∃(k b:Nat) (L:List Nat),i = .int .i64 k∧br = .int .u64 b∧bs.length≤k∧k≤xs.length∧Hid (xl xs bs L k b)∧ja wr w.heap.size 89 (jz L)∧Below w.heap.size w wr) (fun _ i _=>xs.length-(intOf i).toNat)
   case atStart=>exact⟨bs.length,b,L,rfl,rfl,by omega,by omega,hI,hO,hB⟩
   case round=>
    clear hI hO hB hb1 hLl;obtain⟨k,b,L,rfl,rfl,hk1,hk,hI,hO,hB⟩:=hrel;have hb1:b≤1:=hI.out.2.2.1;have hLl:L.length=xs.length+1:=hI.out.1;by_cases hlt:k<xs.length
    ·obtain⟨b0,off,rfl,hbb,hcell⟩:=hs.at_ (k:=k) (by rw[jB];omega)
     have hck:=(hB.cell (p:=⟨b0,off+k,none⟩) hbb).trans ((hcell k (by rw[jB];omega)).trans (jP xs k (by omega)));have hck2:=(hO.cell k).trans (jP L k (by omega));have hfr:=hO.free k;have hwx:=ka h2 k
     have hz:bs[k]?.getD 0=0:=by rw[Qah (by omega)];rfl
     have Hst:=fun d br' a1 a2 a3=>Lib.hid (xl.step hI.out (d:=d) (c':=br') (by omega) a1 a2 a3)
     rw[hz] at Hst;clear hz;generalize xs[k]?.getD 0=x at *;generalize L[k]?.getD 0=z at *;clear hcell hs gs hLl;unfold WB at hwx
     go_wp2_with (first | simp only[Vg (x:Int) (b:Int) (by omega) (by omega) (by omega) (by omega)])
     obtain⟨d,br,e1,e2,a1,a2,a3⟩:=Kx x b hwx (by unfold WB;omega);rw[e1,e2];refine⟨⟨k+1,br,_,by go_num,rfl,by omega,by omega,Hst d br a1 a2 (by omega),?_,hB.setCell (by simp) _⟩,by simp[intOf];omega⟩;rw[←kN];exact hO.put k _
    ·have hkk:k=xs.length:=by omega
     subst hkk;have hval:=Lib.hid (hI.out.last hbl);have hck2:=(hO.cell xs.length).trans (jP L xs.length (by omega));generalize L[xs.length]?.getD 0=z at *;have hfr:=hO.free xs.length;have hO2:=hO.put xs.length (.int .u64 (b:Int));rw[kN] at hO2;have hsl:=Lib.hid (hO2.sl (xs.length+1) (by rw[jB];exact hval.out.2.2) (by omega));clear hLl
     go_wp2_with (go_at_call 104;refine(zP _ _ _ _ _ hval.out.2.1 hsl.out).mono ?_;rintro e w' ⟨v,rfl,hv,rfl⟩)
     go_ret;refine⟨v,rfl,?_,hB.setCell (by simp) _⟩;rw[←hval.out.1];exact hv
theorem Fs (v u:Value) (x y:Nat) (zs bs:List Nat) (A B:Option Addr) (c d:Nat) (w:World) (hv:v = .slice A zs.length c) (hu:u = .slice B bs.length d) (h1:jd zs=x) (h2:jJ zs) (g1:jd bs=y) (g2:jJ bs)
  (hs:Sl w 1 (.slice A zs.length c) (jz zs)) (gs:Sl w 1 (.slice B bs.length d) (jz bs)) (hbl:bs.length<zs.length) (hlen:zs.length≤8000000000000):
  Calls Tryz.prog 183 #[u,v] w fun e w'=>∃v,e = .returned v∧Nt w' v (x+y)∧Below w.heap.size w w':=by
 subst hv hu h1 g1;have hmk:=yK w (zs.length+1) (by omega);rw[show ((zs.length+1:Nat):Int)=(zs.length:Int)+1 from by omega] at hmk
 have hdl:decide (bs.length<zs.length)=true:=by simpa using hbl
 go_enter Tryz.func183,Tryz.ntmps183
 go_wp2
 go_loopw [6,7,8,23] (fun cr _ _ i wr=>∃(k b:Nat) (L:List Nat),i = .int .i64 k∧cr = .int .u64 b∧k≤bs.length∧Hid (xl zs bs L k b)∧ja wr w.heap.size 89 (jz L)∧Below w.heap.size w wr) (fun _ _ _ i _=>bs.length-(intOf i).toNat)
 case atStart=>exact⟨0,0,_,rfl,rfl,by omega,Lib.hid (xl.start zs bs),ja.make _ _ _,(Below.refl _ _).alloc (Nat.le_refl _) _⟩
 case round=>
  obtain⟨k,b,L,rfl,rfl,hk,hI,hO,hB⟩:=hrel;have hb1:b≤1:=hI.out.2.2.1;have hLl:L.length=zs.length+1:=hI.out.1;by_cases hlt:k<bs.length
  ·obtain⟨b0,off,rfl,hbb,hcell⟩:=hs.at_ (k:=k) (by rw[jB];omega)
   obtain⟨b1,off1,rfl,hbb1,hcell1⟩:=gs.at_ (k:=k) (by rw[jB];omega);have hck:=(hB.cell (p:=⟨b0,off+k,none⟩) hbb).trans ((hcell k (by rw[jB];omega)).trans (jP zs k (by omega)));have hck1:=(hB.cell (p:=⟨b1,off1+k,none⟩) hbb1).trans ((hcell1 k (by rw[jB];omega)).trans (jP bs k (by omega)));have hck2:=(hO.cell k).trans (jP L k (by omega));have hfr:=hO.free k;have hwx:=ka h2 k;have hwy:=ka g2 k
   have Hst:=fun d br' a1 a2 a3=>Lib.hid (xl.step hI.out (d:=d) (c':=br') (by omega) a1 a2 a3)
   generalize zs[k]?.getD 0=x at *;generalize bs[k]?.getD 0=y at *;generalize L[k]?.getD 0=z at *;clear hcell hcell1 hs gs hLl;unfold WB at hwx hwy
   have hlk:k<zs.length:=by omega
   go_wp2_with (first | simp only[Qh (x:Int) (y:Int) (b:Int) (by omega) (by omega) (by omega) (by omega) (by omega) (by omega)])
   obtain⟨d,br,e1,e2,a1,a2,a3⟩:=YS x y b hwx hwy hb1;rw[e1,e2];refine⟨⟨k+1,br,_,by go_num,rfl,by omega,Hst d br a1 a2 a3,?_,hB.setCell (by simp) _⟩,by simp[intOf];omega⟩;rw[←kN];exact hO.put k _
  ·have hkk:k=bs.length:=by omega
   subst hkk
   go_wp2
   go_loopw [6,9] (fun br i wr=>∃(k b:Nat) (L:List Nat),i = .int .i64 k∧br = .int .u64 b∧bs.length≤k∧k≤zs.length∧Hid (xl zs bs L k b)∧ja wr w.heap.size 89 (jz L)∧Below w.heap.size w wr) (fun _ i _=>zs.length-(intOf i).toNat)
   case atStart=>exact⟨bs.length,b,L,rfl,rfl,by omega,by omega,hI,hO,hB⟩
   case round=>
    clear hI hO hB hb1 hLl;obtain⟨k,b,L,rfl,rfl,hk1,hk,hI,hO,hB⟩:=hrel;have hb1:b≤1:=hI.out.2.2.1;have hLl:L.length=zs.length+1:=hI.out.1;by_cases hlt:k<zs.length
    ·obtain⟨b0,off,rfl,hbb,hcell⟩:=hs.at_ (k:=k) (by rw[jB];omega)
     have hck:=(hB.cell (p:=⟨b0,off+k,none⟩) hbb).trans ((hcell k (by rw[jB];omega)).trans (jP zs k (by omega)));have hck2:=(hO.cell k).trans (jP L k (by omega));have hfr:=hO.free k;have hwx:=ka h2 k
     have hz:bs[k]?.getD 0=0:=by rw[Qah (by omega)];rfl
     have Hst:=fun d br' a1 a2 a3=>Lib.hid (xl.step hI.out (d:=d) (c':=br') (by omega) a1 a2 a3)
     rw[hz] at Hst;clear hz;generalize zs[k]?.getD 0=x at *;generalize L[k]?.getD 0=z at *;clear hcell hs gs hLl;unfold WB at hwx
     go_wp2_with (first | simp only[Vg (x:Int) (b:Int) (by omega) (by omega) (by omega) (by omega)])
     obtain⟨d,br,e1,e2,a1,a2,a3⟩:=Kx x b hwx (by unfold WB;omega);rw[e1,e2];refine⟨⟨k+1,br,_,by go_num,rfl,by omega,by omega,Hst d br a1 a2 (by omega),?_,hB.setCell (by simp) _⟩,by simp[intOf];omega⟩;rw[←kN];exact hO.put k _
    ·have hkk:k=zs.length:=by omega
     subst hkk;have hval:=Lib.hid (hI.out.last (Qbo hbl));have hck2:=(hO.cell zs.length).trans (jP L zs.length (by omega));generalize L[zs.length]?.getD 0=z at *;have hfr:=hO.free zs.length;have hO2:=hO.put zs.length (.int .u64 (b:Int));rw[kN] at hO2;have hsl:=Lib.hid (hO2.sl (zs.length+1) (by rw[jB];exact hval.out.2.2) (by omega));clear hLl
     go_wp2_with (go_at_call 104;refine(zP _ _ _ _ _ hval.out.2.1 hsl.out).mono ?_;rintro e w' ⟨v,rfl,hv,rfl⟩)
     go_ret;refine⟨v,rfl,?_,hB.setCell (by simp) _⟩;rw[←hval.out.1];exact hv
theorem Fl (v u:Value) (x y:Nat) (w:World) (h:Nt w v x) (h':Nt w u y) (hf:jp x) (hg:jp y):
  Calls Tryz.prog 183 #[v,u] w fun e w'=>∃v,e = .returned v∧Nt w' v (x+y)∧Below w.heap.size w w':=by
 obtain⟨zs,A,c,hv,h1,h2,h3,_,_,hs⟩:=h.open_;obtain⟨bs,B,d,hu,g1,g2,g3,_,_,gs⟩:=h'.open_;have hlen:=jp.len h3 h1 hf;have glen:=jp.len g3 g1 hg;by_cases hl:bs.length≤zs.length
 ·exact Fo v u x y zs bs A B c d w hv hu h1 h2 g1 g2 hs gs hl hlen
 ·rw[Qcr]
  exact Fs u v y x bs zs B A d c w hu hv g1 g2 h1 h2 gs hs (by omega) glen
def yF (L:List Bool):List Value:=L.map Value.bool
theorem YX (L:List Bool) (k:Nat) (h:k<L.length):(yF L)[k]? =some (Value.bool (L[k]?.getD false)):=by simp[yF,h]
theorem Vn (L:List Bool) (k:Nat) (x:Bool):(yF L).set k (.bool x)=yF (L.set k x):=by simp[yF,List.map_set]
theorem ku (L:List Int):(je L).length=L.length:=by simp[je]
theorem kz (L:List Int) (k:Nat) (h:k<L.length):(je L)[k]? =some (Value.int .i64 (L[k]?.getD 0)):=by simp[je,h]
theorem x6 (L:List Int) (k:Nat) (x:Int):(je L).set k (.int .i64 x)=je (L.set k x):=by simp[je,List.map_set]
theorem Ay:(Tryz.prog.info? 4).map (fun i=>(i.zero,i.size,i.bytes))=some (some (.bool false),1,1):=by kernel_rfl
theorem zd:(Tryz.prog.info? 3).map (fun i=>(i.zero,i.size,i.bytes))=some (some (.int .i64 0),1,8):=by kernel_rfl
theorem WW (w:World) (n:Nat) (hn:n≤17592186044416):(Instr.makeSlice 150 (.int .i64 (n:Int)) (.int .i64 (n:Int))).run Tryz.prog w = .ok (.slice (some ⟨w.heap.size,0,none⟩) n n) (w.alloc (.cells (yF (List.replicate n false)).toArray 4)):=by
 have:=run_make_row' (P:=Tryz.prog) 150 4 (.bool false) 1 Tryz.underlying150 Ay rfl .i64 .i64 n (by omega) (by omega) w;rw[JG] at this;rw[this];simp[yF]
theorem J7 (w:World) (n:Nat) (hn:n≤17592186044416):(Instr.makeSlice 41 (.int .i64 (n:Int)) (.int .i64 (n:Int))).run Tryz.prog w = .ok (.slice (some ⟨w.heap.size,0,none⟩) n n) (w.alloc (.cells (je (List.replicate n 0)).toArray 3)):=by
 have:=run_make_row' (P:=Tryz.prog) 41 3 (.int .i64 0) 8 Tryz.underlying41 zd rfl .i64 .i64 n (by omega) (by omega) w;rw[JG] at this;rw[this];simp[je]
def y4 (p:List Int):Prop:=(∀x∈p,0≤x∧x<p.length)∧p.Nodup
instance (p:List Int):Decidable (y4 p):=by unfold y4;infer_instance
def ki (p:List Int):Int:=if 256<p.length then 5 else if y4 p then 0 else 14
def yC (p:List Int) (L:List Bool) (k:Nat):Prop:=L.length=p.length∧(∀x∈p.take k,0≤x∧x<p.length)∧(p.take k).Nodup ∧ ∀j,j<p.length→(L[j]?.getD false=true↔(j:Int)∈p.take k)
theorem Yx (p:List Int) (k:Nat) (h:k<p.length):p.take (k+1)=p.take k++[p[k]?.getD 0]:=by
 rw[Qa5,Qaa h];rfl
theorem yC.start (p:List Int):yC p (List.replicate p.length false) 0:=by
 refine⟨by simp,by simp,by simp,fun j hj=> ?_⟩;simp[hj]
theorem yC.step {p:List Int} {L:List Bool} {k x:Nat} (h:yC p L k) (hk:k<p.length) (hx:p[k]?.getD 0=(x:Int)) (hlt:x<p.length) (hs:L[x]?.getD false=false):yC p (L.set x true) (k+1):=by
 obtain⟨h1,h2,h3,h4⟩:=h
 have hni:(x:Int) ∉ p.take k:=by
  intro hm;have:=(h4 x hlt).2 hm;rw[hs] at this;cases this
 rw[yC,Yx p k hk,hx];refine⟨by simp[h1],?_,?_,fun j hj=> ?_⟩
 ·intro y hy
  rcases List.mem_append.1 hy with hy | hy
  ·exact h2 y hy
  ·have:y=x:=by simpa using hy
   omega
 ·rw[List.nodup_append]
  refine⟨h3,by simp,?_⟩;intro a ha b hb
  have:b=x:=by simpa using hb
  rintro rfl;exact hni (this ▸ ha)
 ·by_cases hjx:j=x
  ·subst hjx;simp[h1,hlt]
  ·rw[Qby]
   have:((L.set x true)[j]?.getD false)=L[j]?.getD false:=by simp[List.getElem?_set_ne (Ne.symm hjx)]
   rw[this,h4 j hj]
   simp;omega
theorem yC.bad {p:List Int} {L:List Bool} {k:Nat} (h:yC p L k) (hk:k<p.length) (hb:p[k]?.getD 0<0∨(p.length:Int)≤p[k]?.getD 0∨(0≤p[k]?.getD 0∧p[k]?.getD 0<p.length∧L[(p[k]?.getD 0).toNat]?.getD false=true)):¬y4 p:=by
 rintro ⟨g1,g2⟩
 have hm:p[k]?.getD 0∈p:=by rw[Qaa hk];exact Qay hk
 have:=g1 _ hm
 rcases hb with hb | hb | ⟨b1,b2,b3⟩
 ·omega
 ·omega
 ·have hin:=(h.2.2.2 (p[k]?.getD 0).toNat (by omega)).1 b3
  rw[show ((p[k]?.getD 0).toNat:Int)=p[k]?.getD 0 from by omega] at hin
  have hsp:p=p.take k++(p[k]?.getD 0::p.drop (k+1)):=by
   rw[Qaa hk];simp
  rw[hsp,List.nodup_append] at g2;exact g2.2.2 _ hin _ (by simp) rfl
theorem yC.good {p:List Int} {L:List Bool} (h:yC p L p.length):y4 p:=by
 obtain⟨h1,h2,h3,h4⟩:=h;rw[Qad (Nat.le_refl _)] at h2 h3;exact⟨h2,h3⟩
theorem Q9 (v:Value) (p:List Int) (w:World) (hv:Sl w 1 v (je p)):
  Calls Tryz.prog 54 #[v] w fun e w'=>e = .returned (.int .i64 (ki p))∧Below w.heap.size w w':=by
 obtain⟨A,c,rfl,hc1,hc2⟩:=hv.form;rw[ku] at hc1 hv ⊢;by_cases hl:256<p.length
 ·have he:=Lib.hid (show ki p=5 from by unfold ki;rw[if_pos hl])
  go_enter Tryz.func54,Tryz.ntmps54
  go_wp2
  go_ret;exact⟨by rw[he.out];rfl,Below.refl _ _⟩
 ·have hd:decide ((256:Int)<(p.length:Int))=false:=Qat (by omega)
  have hmk:=WW w p.length (by omega);go_enter Tryz.func54,Tryz.ntmps54
  go_wp2
  go_loopw [5,14] (fun _ i wr=>∃(k:Nat) (L:List Bool),i = .int .i64 k∧k≤p.length∧Hid (yC p L k)∧ja wr w.heap.size 4 (yF L)∧Below w.heap.size w wr) (fun _ i _=>p.length-(intOf i).toNat)
  case atStart=>exact⟨0,_,rfl,by omega,Lib.hid (yC.start p),ja.make _ _ _,(Below.refl _ _).alloc (Nat.le_refl _) _⟩
  case round=>
   obtain⟨k,L,rfl,hk,hI,hO,hB⟩:=hrel;have hLl:L.length=p.length:=hI.out.1;by_cases hlt:k<p.length
   ·obtain⟨b0,off,rfl,hbb,hcell⟩:=hv.at_ (k:=k) (by rw[ku];omega)
    have hck:=(hB.cell (p:=⟨b0,off+k,none⟩) hbb).trans ((hcell k (by rw[ku];omega)).trans (kz p k hlt))
    have Hbad:=fun h=>Lib.hid (hI.out.bad hlt h)
    have Hst:=fun (x:Nat) a b c=>Lib.hid (hI.out.step (x:=x) hlt a b c)
    generalize p[k]?.getD 0=x at *;clear hcell hv;by_cases h0:x<0
    ·have he:=Lib.hid (show ki p=14 from by unfold ki;rw[if_neg hl,if_neg (Hbad (.inl h0)).out])
     go_wp2
     go_ret;exact⟨by rw[he.out];rfl,hB⟩
    ·by_cases h1:(p.length:Int)≤x
     ·have he:=Lib.hid (show ki p=14 from by unfold ki;rw[if_neg hl,if_neg (Hbad (.inr (.inl h1))).out])
      go_wp2
      go_ret;exact⟨by rw[he.out];rfl,hB⟩
     ·obtain⟨y,rfl⟩:=Qa2 (Int.not_lt.1 h0)
      have hyl:y<p.length:=by omega
      have hck2:=(hO.cell y).trans (YX L y (by omega));have hfr:=hO.free y;by_cases hs:L[y]?.getD false=true
      ·have he:=Lib.hid (show ki p=14 from by unfold ki;rw[if_neg hl,if_neg (Hbad (.inr (.inr ⟨by omega,by omega,by simpa using hs⟩))).out])
       rw[hs] at hck2;clear hs Hbad Hst hLl
       go_wp2
       go_ret;exact⟨by rw[he.out];rfl,hB⟩
      ·have hs':L[y]?.getD false=false:=by simpa using hs
       have hs2:=Hst y rfl hyl hs';rw[hs'] at hck2;clear hs hs' Hbad Hst hLl
       go_wp2
       refine⟨⟨k+1,_,by go_num,by omega,hs2,?_,hB.setCell (by simp) _⟩,by simp[intOf];omega⟩;rw[←Vn];exact hO.put y _
   ·have hkk:k=p.length:=by omega
    subst hkk;have he:=Lib.hid (show ki p=0 from by unfold ki;rw[if_neg hl,if_pos hI.out.good]);clear hLl
    go_wp2
    go_ret;exact⟨by rw[he.out];rfl,hB⟩
