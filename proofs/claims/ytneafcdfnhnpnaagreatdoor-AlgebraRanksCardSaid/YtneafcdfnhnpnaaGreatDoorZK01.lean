/- Plain mathematics of numbers as lists of words of 64 bits, the lowest word first. -/
import Derived.WalkSpells
import Derived.WalkLawsBesides
import Derived.BigQuiet
import Derived.Shelf.Spec.BitsCarry
import Derived.Deep.OwnRows
import Derived.Test.YtneafcdfnhnpnaaGreatDoorZSh
set_option maxHeartbeats 1000000
namespace Go.Proofs.YtneafcdfnhnpnaaGreatDoor
abbrev WB:Nat:=18446744073709551616
def jd:List Nat→Nat
 | []=>0
 | x::r=>x+WB*jd r
def jJ (ws:List Nat):Prop:=∀x∈ws,x<WB
def jF (ws:List Nat):List Nat:=(ws.reverse.dropWhile (· ==0)).reverse
def ki (ws:List Nat):Prop:=jF ws=ws
theorem zL (l:List Nat):jF (l++[0])=jF l:=by simp[jF]
theorem zK (l:List Nat) (x:Nat) (h:x≠0):jF (l++[x])=l++[x]:=by simp[jF,h]
theorem yO (ws:List Nat) (k:Nat) (hk:k<ws.length):ws.take (k+1)=ws.take k++[ws[k]?.getD 0]:=by
 rw[List.take_add_one,List.getElem?_eq_getElem hk];rfl
theorem JH {P:List Nat→Prop} (h0:P []) (h1:∀l x,P l→P (l++[x])) (l:List Nat):P l:=by
 rw[←List.reverse_reverse l]
 induction l.reverse with
 | nil=>exact h0
 | cons x r ih=>rw[List.reverse_cons];exact h1 _ _ ih
theorem X5 (a b:List Nat):jd (a++b)=jd a+WB^a.length*jd b:=by
 induction a with
 | nil=>simp[jd]
 | cons x r ih=>
  simp only[List.cons_append,jd,ih,List.length_cons,Nat.pow_succ];rw[Nat.mul_add,←Nat.mul_assoc,Nat.mul_comm WB (_^_),Nat.add_assoc]
theorem Jg (l:List Nat) (x:Nat):jd (l++[x])=jd l+WB^l.length*x:=by rw[X5];simp[jd]
theorem FS (ws:List Nat):jd (jF ws)=jd ws:=by
 refine JH (P:=fun ws=>jd (jF ws)=jd ws) rfl (fun l x ih=> ?_) ws;by_cases h:x=0
 ·subst h;rw[zL,ih,X5];simp[jd]
 ·rw[zK l x h]
theorem X0 (ws:List Nat):ki (jF ws):=by
 refine JH (P:=fun ws=>ki (jF ws)) rfl (fun l x ih=> ?_) ws;by_cases h:x=0
 ·subst h;rw[zL];exact ih
 ·unfold ki;rw[zK l x h,zK l x h]
theorem FB:jJ []:=by unfold jJ;simp
theorem H7 {x:Nat} :jJ [x]↔x<WB:=by unfold jJ;simp
theorem yl {ws:List Nat} (h:jJ ws) (k:Nat):jJ (ws.take k):=fun x hx=>h x (List.mem_of_mem_take hx)
theorem jX {ws:List Nat} (h:jJ ws) (k:Nat):ws[k]?.getD 0<WB:=by
 rcases Nat.lt_or_ge k ws.length with hk | hk
 ·rw[List.getElem?_eq_getElem hk];exact h _ (List.getElem_mem hk)
 ·rw[List.getElem?_eq_none hk];simp
theorem FO {ws:List Nat} (h:jJ ws):jJ (jF ws):=by
 intro x hx;apply h;unfold jF at hx;rw[List.mem_reverse] at hx;exact List.mem_reverse.1 ((List.dropWhile_sublist _).mem hx)
theorem JO (ws:List Nat):(jF ws).length≤ws.length:=by
 unfold jF;rw[List.length_reverse];have:=(List.dropWhile_sublist (fun x=>x==0) (l:=ws.reverse)).length_le;simpa using this
theorem qQ {ws:List Nat} (h:jJ ws):jd ws<WB^ws.length:=by
 induction ws with
 | nil=>simp[jd]
 | cons x r ih=>
  have hx:=h x (by simp);have hr:=ih (fun y hy=>h y (by simp[hy]));simp only[jd,List.length_cons,Nat.pow_succ];have:WB*(jd r+1)≤WB*WB^r.length:=Nat.mul_le_mul_left _ hr;rw[Nat.mul_comm (_^_) WB];rw[Nat.mul_add,Nat.mul_one] at this;omega
theorem JN {ws:List Nat} (h:ki ws) (hne:ws≠[]):WB^(ws.length-1)≤jd ws:=by
 revert h hne;refine JH (P:=fun ws=>ki ws→ws≠[]→WB^(ws.length-1)≤jd ws) (fun _ h=>absurd rfl h) (fun l x _ h _=> ?_) ws;by_cases hx:x=0
 ·subst hx
  unfold ki at h;rw[zL] at h;have:=JO l;rw[h] at this;simp at this;omega
 ·rw[Jg]
  have:WB^l.length*1≤WB^l.length*x:=Nat.mul_le_mul_left _ (by omega)
  simp;omega
theorem FA {ws:List Nat} (h:ki ws):jd ws=0↔ws=[]:=by
 constructor
 ·intro h0
  rcases List.eq_nil_or_concat ws with rfl | ⟨l,x,rfl⟩
  ·rfl
  ·have:=JN h (by simp)
   have hp:0<WB^((l.concat x).length-1):=Nat.pow_pos (by decide);omega
 ·rintro rfl;rfl
theorem Kt {ws:List Nat} (h:ki ws) {n:Nat} (hv:jd ws<WB^n):ws.length≤n:=by
 rcases Nat.lt_or_ge n ws.length with hl | hl
 ·have hne:ws≠[]:=by intro e;subst e;simp at hl
  have:=JN h hne;have h2:WB^n≤WB^(ws.length-1):=Nat.pow_le_pow_right (by decide) (by omega);omega
 ·exact hl
theorem Kw {a b:List Nat} (ha:jJ a) (hb:ki b) (h:a.length<b.length):jd a<jd b:=by
 have h1:=qQ ha;have h2:=JN hb (by intro e;subst e;simp at h);have h3:WB^a.length≤WB^(b.length-1):=Nat.pow_le_pow_right (by decide) (by omega);omega
theorem X6 (ws:List Nat) (k:Nat) (hk:k<ws.length):jd ws=jd (ws.take k)+WB^k*(ws[k]?.getD 0+WB*jd (ws.drop (k+1))):=by
 have h:ws=ws.take k++(ws[k]?.getD 0::ws.drop (k+1)):=by
  rw[List.getElem?_eq_getElem hk]
  simp
 conv=>lhs;rw[h]
 rw[X5];simp only[jd,List.length_take];rw[Nat.min_eq_left (by omega)]
theorem Mh {a b:List Nat} (ha:jJ a) (hl:a.length=b.length) (k:Nat) (hk:k<a.length) (hd:a.drop (k+1)=b.drop (k+1)) (hlt:a[k]?.getD 0<b[k]?.getD 0):jd a<jd b:=by
 rw[X6 a k hk,X6 b k (by omega),hd];have h1:=qQ (yl ha k);rw[List.length_take,Nat.min_eq_left (by omega)] at h1;generalize jd (b.drop (k+1))=D at *;generalize a[k]?.getD 0=x at *;generalize b[k]?.getD 0=y at *
 have h2:WB^k*(x+WB*D)+WB^k*1≤WB^k*(y+WB*D):=by rw[←Nat.mul_add];exact Nat.mul_le_mul_left _ (by omega)
 omega
end Go.Proofs.YtneafcdfnhnpnaaGreatDoor
namespace Go.Proofs.YtneafcdfnhnpnaaGreatDoor
open Go.RowKit
theorem yL {k k2:IntKind} {a b c d:Int} (h:a=b) (h2:c=d):Ending.returned (.tuple #[.int k a,.int k2 c]) = .returned (.tuple #[.int k b,.int k2 d]):=by rw[h,h2]
theorem Je {k:IntKind} {a b:Int} (h:a=b):Ending.returned (.int k a) = .returned (.int k b):=by rw[h]
theorem AC {P:Program} {f:FuncId} {args:Array Value} {w:World} {n:Nat} {v:Value}
  (h:Calls P f args (w.drewN n) fun e w'=>e = .returned v∧w.drewN n=w'):Calls P f args (w.drewN n) fun e w''=>e = .returned v ∧ ∃m,w''=w.drewN m:=
 h.mono fun _ _ ⟨he,hm⟩=>⟨he,n,hm.symm⟩
def Sl (w:World) (z:Nat) (v:Value) (xs:List Value):Prop:=
 ∃A n c,v = .slice A n c∧n≤c∧c≤140737488355328∧xs.length=n*z ∧
  (0<n → ∃b off,A=some ⟨b,off,none⟩∧b<w.heap.size ∧ ∀j u,xs[j]? =some u→w.cell? ⟨b,off+j,none⟩=some u)
section
variable {w w':World} {z:Nat} {v:Value} {xs:List Value}
theorem Sl.keep (h:Sl w z v xs) (hs:w.heap.size≤w'.heap.size) (hk:∀b o,b<w.heap.size→w'.cell? ⟨b,o,none⟩=w.cell? ⟨b,o,none⟩):Sl w' z v xs:=by
 obtain⟨A,n,c,hv,h1,h2,h3,h4⟩:=h;refine⟨A,n,c,hv,h1,h2,h3,fun hn=> ?_⟩;obtain⟨b,off,hA,hb,hc⟩:=h4 hn;exact⟨b,off,hA,by omega,fun j u hu=>by rw[hk _ _ hb];exact hc j u hu⟩
theorem Sl.below (h:Sl w z v xs) (hb:Below w.heap.size w w'):Sl w' z v xs:=
 h.keep hb.size fun b o hlt=>hb.cell (p:=⟨b,o,none⟩) hlt
theorem Sl.alloc (h:Sl w z v xs) (o:Obj):Sl (w.alloc o) z v xs:=h.below ((Below.refl _ _).alloc (Nat.le_refl _) o)
theorem Sl.nil:Sl w z (.slice none 0 0) []:=⟨none,0,0,rfl,by omega,by omega,by simp,fun h=>by omega⟩
theorem Sl.new (w:World) (t:TypeId) (cs:Array Value) (hs:cs.size≤140737488355328):Sl (w.alloc (.cells cs t)) 1 (.slice (some ⟨w.heap.size,0,none⟩) cs.size cs.size) cs.toList:=by
 refine⟨_,_,_,rfl,by omega,hs,by simp,fun _=>⟨w.heap.size,0,rfl,by simp,fun j u hu=> ?_⟩⟩;rw[World.cell?_alloc_at _ _ _ _ rfl,Nat.zero_add];simpa using hu
theorem Sl.lit (w:World) (t:TypeId) (cs:Array Value) (n:Nat) (hn:cs.size=n) (hs:n≤140737488355328):Sl (w.alloc (.cells cs t)) 1 (.slice (some ⟨w.heap.size,0,none⟩) n n) cs.toList:=by
 subst hn;exact Sl.new w t cs hs
theorem Sl.form (h:Sl w 1 v xs):∃A c,v = .slice A xs.length c∧xs.length≤c∧c≤140737488355328:=by
 obtain⟨A,n,c,hv,h1,h2,h3,h4⟩:=h
 have:n=xs.length:=by omega
 subst this;exact⟨A,c,hv,h1,h2⟩
theorem Sl.at_ {A:Option Addr} {n c:Nat} (h:Sl w 1 (.slice A n c) xs) {k:Nat} (hk:k<xs.length):
  ∃b off,A=some ⟨b,off,none⟩∧b<w.heap.size ∧ ∀j,j<xs.length→w.cell? ⟨b,off+j,none⟩=xs[j]? :=by
 obtain⟨A',n',c',hv,h1,h2,h3,h4⟩:=h
 obtain⟨rfl,rfl,rfl⟩:A=A'∧n=n'∧c=c':=by simpa using hv
 obtain⟨b,off,hA,hb,hc⟩:=h4 (by omega);exact⟨b,off,hA,hb,fun j hj=>by rw[List.getElem?_eq_getElem hj];exact hc j _ (List.getElem?_eq_getElem hj)⟩
theorem Sl.take {A:Option Addr} {n c k:Nat} (h:Sl w 1 (.slice A n c) xs) (hk:k≤n):Sl w 1 (.slice A k c) (xs.take k):=by
 obtain⟨A',n',c',hv,h1,h2,h3,h4⟩:=h
 obtain⟨rfl,rfl,rfl⟩:A=A'∧n=n'∧c=c':=by simpa using hv
 refine⟨A,k,c,rfl,by omega,h2,by simp;omega,fun hn=> ?_⟩;obtain⟨b,off,hA,hb,hc⟩:=h4 (by omega);refine⟨b,off,hA,hb,fun j u hu=>hc j u ?_⟩;rw[List.getElem?_take] at hu;split at hu
 ·exact hu
 ·cases hu
end
def jy (ws:List Nat):List Value:=ws.map fun (x:Nat)=>Value.int .u64 (x:Int)
theorem jA (ws:List Nat):(jy ws).length=ws.length:=by simp[jy]
theorem ZT (ws:List Nat) (k:Nat) (h:k<ws.length):(jy ws)[k]? =some (Value.int .u64 ((ws[k]?.getD 0:Nat):Int)):=by
 simp[jy,h]
theorem G9 (ws:List Nat) (k:Nat):(jy ws).take k=jy (ws.take k):=by simp[jy]
theorem ZO (A:Option Addr) (c:Nat) (ws:List Nat) (w:World) (hv:Sl w 1 (.slice A ws.length c) (jy ws)):
  Calls Tryz.prog 195 #[.slice A ws.length c] w fun e w'=>e = .returned (.slice A (jF ws).length c)∧Sl w 1 (.slice A (jF ws).length c) (jy (jF ws))∧w=w':=by
 have hc:=hv.form;obtain⟨A0,c0,hv0,hc1,hc2⟩:=hc;rw[jA] at hc1 hv0
 obtain⟨rfl,rfl⟩:A=A0∧c=c0:=by simpa using hv0
 clear hv0;go_enter Tryz.func195,Tryz.ntmps195
 go_wp2
 go_loop [3] (fun u=>∃k:Nat,u = .int .i64 k∧k≤ws.length∧Hid (jF (ws.take k)=jF ws)) (fun u=>(intOf u).toNat)
 case atStart=>exact⟨ws.length,rfl,by omega,Lib.hid (by simp)⟩
 case round=>
  obtain⟨k,rfl,hk,hf⟩:=hrel;by_cases h0:0<k
  ·obtain⟨j,rfl⟩:∃j,k=j+1:=⟨k-1,by omega⟩
   obtain⟨b,off,rfl,hb,hcell⟩:=hv.at_ (k:=j) (by rw[jA];omega);have hck:=hcell j (by rw[jA];omega);rw[ZT ws j (by omega)] at hck;have Ht:=Lib.hid (yO ws j (by omega));generalize hx:ws[j]?.getD 0=x at hck Ht;clear hx hcell;by_cases hz:x=0
   ·subst hz
    go_wp2
    refine⟨⟨j,rfl,by omega,Lib.hid ?_⟩,by simp[intOf]⟩;rw[←hf.out,Ht.out,zL]
   ·have hz':(((x:Nat):Int)==0)=false:=by simpa using hz
    have hlen:jF ws=ws.take (j+1):=by rw[←hf.out,Ht.out,zK _ _ hz]
    have hsl:=hv.take (k:=j+1) (by omega);rw[G9,←hlen] at hsl
    have hn:(jF ws).length=j+1:=by rw[hlen];simp;omega
    have Hn:=Lib.hid hn;clear hn;clear hlen
    go_wp2
    go_ret;refine⟨by rw[Hn.out];rfl,by rw[Hn.out];exact hsl,rfl⟩
  ·have:k=0:=by omega
   subst this
   have hn:jF ws=[]:=by rw[←hf.out];rfl
   have Hn:=Lib.hid hn;clear hn;have hsl:=hv.take (k:=0) (by omega)
   go_wp2
   go_ret;refine⟨by rw[Hn.out];rfl,by rw[Hn.out];exact hsl,rfl⟩
def kj (x y:Nat):Int:=if x<y then -1 else if y<x then 1 else 0
theorem RI (x y:Nat) (w:World):
  Calls Tryz.prog 245 #[.int .u64 x,.int .u64 y] w fun e w'=>e = .returned (.int .i64 (kj x y))∧w=w':=by
 have n1:∀(z:Nat) (w:World),Calls Tryz.prog 269 #[.int .u64 z] w fun e w'=>e = .returned (.bool false)∧w=w':=by
  intro z w;go_enter Tryz.func269,Tryz.ntmps269
  go_wp2
  go_ret;exact⟨by simp,rfl⟩
 have N1:=Lib.hid n1;clear n1;unfold kj;by_cases h:x<y
 ·rw[if_pos h]
  go_enter Tryz.func245,Tryz.ntmps245
  go_wp2_with (go_at_call 269;refine(N1.out _ _).mono ?_;rintro e w' ⟨rfl,rfl⟩)
  go_ret;exact⟨rfl,rfl⟩
 ·rw[if_neg h]
  by_cases h2:y<x
  ·rw[if_pos h2]
   go_enter Tryz.func245,Tryz.ntmps245
   go_wp2_with (go_at_call 269;refine(N1.out _ _).mono ?_;rintro e w' ⟨rfl,rfl⟩)
   go_ret;exact⟨rfl,rfl⟩
  ·rw[if_neg h2]
   go_enter Tryz.func245,Tryz.ntmps245
   go_wp2_with (go_at_call 269;refine(N1.out _ _).mono ?_;rintro e w' ⟨rfl,rfl⟩)
   go_ret;exact⟨rfl,rfl⟩
theorem RH (x y:Nat) (w:World):
  Calls Tryz.prog 244 #[.int .i64 x,.int .i64 y] w fun e w'=>e = .returned (.int .i64 (kj x y))∧w=w':=by
 have n1:∀(z:Int) (w:World),Calls Tryz.prog 268 #[.int .i64 z] w fun e w'=>e = .returned (.bool false)∧w=w':=by
  intro z w;go_enter Tryz.func268,Tryz.ntmps268
  go_wp2
  go_ret;exact⟨by simp,rfl⟩
 have N1:=Lib.hid n1;clear n1;unfold kj;by_cases h:x<y
 ·rw[if_pos h]
  go_enter Tryz.func244,Tryz.ntmps244
  go_wp2_with (go_at_call 268;refine(N1.out _ _).mono ?_;rintro e w' ⟨rfl,rfl⟩)
  go_ret;exact⟨rfl,rfl⟩
 ·rw[if_neg h]
  by_cases h2:y<x
  ·rw[if_pos h2]
   go_enter Tryz.func244,Tryz.ntmps244
   go_wp2_with (go_at_call 268;refine(N1.out _ _).mono ?_;rintro e w' ⟨rfl,rfl⟩)
   go_ret;exact⟨rfl,rfl⟩
  ·rw[if_neg h2]
   go_enter Tryz.func244,Tryz.ntmps244
   go_wp2_with (go_at_call 268;refine(N1.out _ _).mono ?_;rintro e w' ⟨rfl,rfl⟩)
   go_ret;exact⟨rfl,rfl⟩
def Nt (w:World) (v:Value) (x:Nat):Prop:=∃ws,jd ws=x∧jJ ws∧ki ws∧Sl w 1 v (jy ws)
section
variable {w w':World} {v:Value} {x:Nat}
theorem Nt.below (h:Nt w v x) (hb:Below w.heap.size w w'):Nt w' v x:=by
 obtain⟨ws,h1,h2,h3,h4⟩:=h;exact⟨ws,h1,h2,h3,h4.below hb⟩
theorem Nt.drewN (h:Nt w v x) (k:Nat):Nt (w.drewN k) v x:=h
theorem Nt.nil:Nt w (.slice none 0 0) 0:=⟨[],rfl,FB,rfl,Sl.nil⟩
theorem Nt.open_ (h:Nt w v x):∃ws A c,v = .slice A ws.length c∧jd ws=x∧jJ ws∧ki ws∧ws.length≤c∧c≤140737488355328∧Sl w 1 (.slice A ws.length c) (jy ws):=by
 obtain⟨ws,h1,h2,h3,h4⟩:=h;obtain⟨A,c,rfl,h5,h6⟩:=h4.form;rw[jA] at h5 h4 ⊢;exact⟨ws,A,c,rfl,h1,h2,h3,h5,h6,h4⟩
end
theorem Nt.of_trim {w:World} {A:Option Addr} {c:Nat} {ws:List Nat} (hok:jJ ws) (h:Sl w 1 (.slice A (jF ws).length c) (jy (jF ws))):Nt w (.slice A (jF ws).length c) (jd ws):=
 ⟨jF ws,FS ws,FO hok,X0 ws,h⟩
theorem zj (A:Option Addr) (n c:Nat) (ws:List Nat) (w:World) (hok:jJ ws) (hv:Sl w 1 (.slice A n c) (jy ws)):
  Calls Tryz.prog 195 #[.slice A n c] w fun e w'=>∃v,e = .returned v∧Nt w v (jd ws)∧w=w':=by
 have hn:n=ws.length:=by
  obtain⟨A',c',h,_⟩:=hv.form;rw[jA] at h;simp at h;exact h.2.1
 subst hn
 exact(ZO A c ws w hv).mono fun e w' ⟨h1,h2,h3⟩=>⟨_,h1,Nt.of_trim hok h2,h3⟩
theorem Jy (x:Nat) (w:World) (hx:x<18446744073709551616):
  Calls Tryz.prog 189 #[.int .u64 x] w fun e w'=>∃v,e = .returned v∧Nt w' v x∧Below w.heap.size w w':=by
 have hs:=Lib.hid (Sl.lit w 148 #[.int .u64 x] 1 rfl (by omega));go_enter Tryz.func189,Tryz.ntmps189
 go_wp2_with fail
 refine(ZO _ _ [x] _ hs.out).mono ?_;rintro e w' ⟨rfl,h,rfl⟩
 go_wp2
 go_ret;exact⟨_,rfl,(by have:=Nt.of_trim (H7.2 hx) h;simpa [jd] using this),(Below.refl _ _).alloc (Nat.le_refl _) _⟩
theorem kS (v:Value) (x:Nat) (w:World) (h:Nt w v x):
  Calls Tryz.prog 139 #[v] w fun e w'=>e = .returned (.bool (decide (x=1)))∧w=w':=by
 obtain⟨ws,A,c,rfl,h1,h2,h3,hc1,hc2,hs⟩:=h.open_
 have hone:∀y,ws=[y]→x=y:=fun y hy=>by subst hy;simpa [jd] using h1.symm
 by_cases hl:ws.length=1
 ·obtain⟨y,rfl⟩:=List.length_eq_one_iff.1 hl
  have hxy:=hone y rfl;subst hxy;obtain⟨b,off,rfl,hb,hcell⟩:=hs.at_ (k:=0) (by simp[jy])
  have hck:w.cell? ⟨b,off,none⟩=some (Value.int .u64 (x:Int)):=by simpa [jy] using hcell 0 (by simp[jy])
  clear hcell hs h hone h1;by_cases hx:x=1
  ·subst hx
   go_enter Tryz.func139,Tryz.ntmps139
   go_wp2
   go_ret;exact⟨rfl,rfl⟩
  ·have hb2:((x:Int)==1)=false:=by simpa using (by omega:¬(x:Int)=1)
   have hd:=Lib.hid (decide_eq_false hx);go_enter Tryz.func139,Tryz.ntmps139
   go_wp2
   go_ret;exact⟨by rw[hd.out];rfl,rfl⟩
 ·have hx:¬x=1:=by
   intro hx;have h4:ws.length≤1:=Kt h3 (n:=1) (by rw[h1,hx];decide);have h5:ws=[]:=List.length_eq_zero_iff.1 (by omega);subst h5;simp[jd] at h1;omega
  have hb2:((ws.length:Int)==1)=false:=by simpa using (by omega:¬(ws.length:Int)=1)
  have hd:=Lib.hid (decide_eq_false hx);clear hs h hone;go_enter Tryz.func139,Tryz.ntmps139
  go_wp2
  go_ret;exact⟨by rw[hd.out];rfl,rfl⟩
theorem qW (v u:Value) (x y:Nat) (w:World) (h:Nt w v x) (h':Nt w u y):
  Calls Tryz.prog 220 #[v,u] w fun e w'=>e = .returned (.int .i64 (kj x y)) ∧ ∃n,w'=w.drewN n:=by
 obtain⟨ws,A,c,rfl,h1,h2,h3,hc1,hc2,hs⟩:=h.open_;obtain⟨us,B,d,rfl,g1,g2,g3,gc1,gc2,gs⟩:=h'.open_;subst h1 g1;by_cases hl:ws.length=us.length
 ·have hb:((ws.length:Int) != (us.length:Int))=false:=by rw[hl];simp
  have Hl:=Lib.hid hl;clear hl;go_enter Tryz.func220,Tryz.ntmps220
  go_wp2
  go_loopw [5] (fun i wr=>∃(k n:Nat),i = .int .i64 ((k:Int)-1)∧k≤ws.length∧Hid (ws.drop k=us.drop k)∧wr=w.drewN n) (fun i _=>(intOf i+1).toNat)
  case atStart=>exact⟨ws.length,0,rfl,by omega,Lib.hid (by simp[Hl.out]),rfl⟩
  case round=>
   obtain⟨k,n,rfl,hk,hd,rfl⟩:=hrel;by_cases hk0:k=0
   ·subst hk0
    have he:ws=us:=by simpa using hd.out
    have ho:kj (jd ws) (jd us)=0:=by rw[he];simp[kj]
    have Ho:=Lib.hid ho;clear he ho
    go_wp2
    go_ret;exact⟨by rw[Ho.out];rfl,n,rfl⟩
   ·obtain⟨j,rfl⟩:∃j,k=j+1:=⟨k-1,by omega⟩
    have hj2:j<us.length:=by have:=Hl.out;omega
    obtain⟨b,off,rfl,hbb,hcell⟩:=hs.at_ (k:=j) (by rw[jA];omega);obtain⟨b',off',rfl,hbb',hcell'⟩:=gs.at_ (k:=j) (by rw[jA];omega);have hck:=hcell j (by rw[jA];omega);have hck':=hcell' j (by rw[jA];omega);rw[ZT ws j (by omega)] at hck;rw[ZT us j (by omega)] at hck'
    have Hlt:=fun hlt=>Lib.hid (Mh h2 Hl.out j (by omega) hd.out hlt)
    have Hgt:=fun hlt=>Lib.hid (Mh g2 Hl.out.symm j (by omega) hd.out.symm hlt)
    have Hdj:Hid (ws[j]?.getD 0=us[j]?.getD 0→ws.drop j=us.drop j):=by
     apply Lib.hid;intro e;rw[List.drop_eq_getElem_cons (by omega:j<ws.length),List.drop_eq_getElem_cons hj2,hd.out]
     congr 1
     simpa [List.getElem?_eq_getElem (by omega:j<ws.length),List.getElem?_eq_getElem hj2] using e
    generalize ws[j]?.getD 0=p at *;generalize us[j]?.getD 0=q at *;clear hcell hcell' hs gs h h'
    have ej:((j+1:Nat):Int)-1=(j:Int):=by omega
    rw[ej];by_cases hpq:p=q
    ·subst hpq
     go_wp2
     go_quiet (fail)
     go_wp2
     refine⟨⟨j,n+nq,rfl,by omega,Lib.hid (Hdj.out trivial),by simp⟩,by simp[intOf]⟩
    ·have hne:((p:Int) != (q:Int))=true:=by simpa using (by omega:¬(p:Int)=q)
     have Ho:Hid (kj p q=kj (jd ws) (jd us)):=by
      apply Lib.hid;unfold kj;rcases Nat.lt_or_gt_of_ne hpq with hlt | hlt
      ·rw[if_pos hlt,if_pos (Hlt hlt).out]
      ·have:=(Hgt hlt).out
       rw[if_neg (by omega),if_pos hlt,if_neg (by omega),if_pos this]
     clear Hlt Hgt Hdj
     go_wp2
     go_quiet (fail)
     go_wp2
     have hck2:((w.drewN n).drewN nq).cell? ⟨b,off+j,none⟩=some (Value.int .u64 (p:Int)):=hck;have hck3:((w.drewN n).drewN nq).cell? ⟨b',off'+j,none⟩=some (Value.int .u64 (q:Int)):=hck'
     have Hw2:Hid (∃m,(w.drewN n).drewN nq=w.drewN m):=⟨n+nq,World.drewN_drewN _ _ _⟩
     clear hck hck';generalize (w.drewN n).drewN nq=w2 at *
     go_big_quiet ((go_at_call 245;exact AC (RI _ _ _)))
     go_wp2
     go_ret;obtain⟨m,rfl⟩:=Hw2;exact⟨Je Ho.out,m+nq,by simp⟩
 ·have hb:((ws.length:Int) != (us.length:Int))=true:=by simpa using (by omega:¬(ws.length:Int)=us.length)
  have Ho:Hid (kj ws.length us.length=kj (jd ws) (jd us)):=by
   apply Lib.hid;unfold kj;rcases Nat.lt_or_gt_of_ne hl with hlt | hlt
   ·rw[if_pos hlt,if_pos (Kw h2 g3 hlt)]
   ·have:=Kw g2 h3 hlt
    rw[if_neg (by omega),if_pos hlt,if_neg (by omega),if_pos this]
  go_enter Tryz.func220,Tryz.ntmps220
  go_wp2_with (go_at_call 244;refine(RH _ _ _).mono ?_;rintro e w' ⟨rfl,rfl⟩)
  go_ret;exact⟨Je Ho.out,0,rfl⟩
end Go.Proofs.YtneafcdfnhnpnaaGreatDoor
namespace Go.Proofs.YtneafcdfnhnpnaaGreatDoor
theorem qf (ws:List Nat) (k:Nat):jd (ws.take (k+1))=jd (ws.take k)+WB^k*ws[k]?.getD 0:=by
 rcases Nat.lt_or_ge k ws.length with h | h
 ·rw[yO ws k h,Jg,List.length_take,Nat.min_eq_left (by omega)]
 ·rw[List.take_of_length_le (by omega),List.take_of_length_le h,List.getElem?_eq_none h];simp
theorem JJ (L:List Nat) (k x j:Nat) (h:j≤k):(L.set k x).take j=L.take j:=by
 rw[List.take_set_of_le h]
theorem Ju (L:List Nat) (k x:Nat) (h:k<L.length):(L.set k x)[k]?.getD 0=x:=by simp[h]
theorem JP (L:List Nat) (k x:Nat) (h:k<L.length):jd ((L.set k x).take (k+1))=jd (L.take k)+WB^k*x:=by
 rw[qf,JJ _ _ _ _ (Nat.le_refl _),Ju L k x h]
theorem yP {L:List Nat} (h:jJ L) (k x:Nat) (hx:x<WB):jJ (L.set k x):=by
 intro y hy;rcases List.mem_or_eq_of_mem_set hy with h1 | h1
 ·exact h y h1
 ·omega
theorem Ku (n:Nat):jJ (List.replicate n 0):=by
 intro x hx;rw[List.eq_of_mem_replicate hx];decide
def qV (xs bs L:List Nat) (k br:Nat):Prop:=L.length=xs.length∧jJ L∧br≤1∧jd (xs.take k)+WB^k*br=jd (L.take k)+jd (bs.take k)
theorem qV.start (xs bs:List Nat):qV xs bs (List.replicate xs.length 0) 0 0:=⟨by simp,Ku _,by omega,by simp[jd]⟩
theorem qV.step {xs bs L:List Nat} {k br d br':Nat} (h:qV xs bs L k br) (hk:k<xs.length) (hd:d<WB) (hb:br'≤1)
  (he:xs[k]?.getD 0+WB*br'=d+bs[k]?.getD 0+br):qV xs bs (L.set k d) (k+1) br':=by
 obtain⟨h1,h2,h3,h4⟩:=h;refine⟨by simp[h1],yP h2 k d hd,hb,?_⟩;rw[qf xs,qf bs,JP L k d (by omega),Nat.pow_succ]
 have e:WB^k*(xs[k]?.getD 0+WB*br')=WB^k*(d+bs[k]?.getD 0+br):=by rw[he]
 simp only[Nat.mul_add,Nat.mul_assoc] at e ⊢;omega
theorem qV.last {xs bs L:List Nat} {br:Nat} (h:qV xs bs L xs.length br) (hl:bs.length≤xs.length) (hle:jd bs≤jd xs):jd L=jd xs-jd bs:=by
 obtain⟨h1,h2,h3,h4⟩:=h;rw[List.take_of_length_le (Nat.le_refl _),List.take_of_length_le (by omega),List.take_of_length_le hl] at h4;have h5:=qQ h2;rw[h1] at h5
 have:br=0:=by
  rcases Nat.lt_or_ge br 1 with hb | hb
  ·omega
  ·have hb1:br=1:=by omega
   subst hb1;omega
 subst this;omega
def qS (xs bs L:List Nat) (k c:Nat):Prop:=L.length=xs.length+1∧jJ L∧c≤1∧jd (xs.take k)+jd (bs.take k)=jd (L.take k)+WB^k*c
theorem qS.start (xs bs:List Nat):qS xs bs (List.replicate (xs.length+1) 0) 0 0:=⟨by simp,Ku _,by omega,by simp[jd]⟩
theorem qS.step {xs bs L:List Nat} {k c d c':Nat} (h:qS xs bs L k c) (hk:k<xs.length) (hd:d<WB) (hb:c'≤1)
  (he:xs[k]?.getD 0+bs[k]?.getD 0+c=d+WB*c'):qS xs bs (L.set k d) (k+1) c':=by
 obtain⟨h1,h2,h3,h4⟩:=h;refine⟨by simp[h1],yP h2 k d hd,hb,?_⟩;rw[qf xs,qf bs,JP L k d (by omega),Nat.pow_succ]
 have e:WB^k*(xs[k]?.getD 0+bs[k]?.getD 0+c)=WB^k*(d+WB*c'):=by rw[he]
 simp only[Nat.mul_add,Nat.mul_assoc] at e ⊢;omega
theorem qS.last {xs bs L:List Nat} {c:Nat} (h:qS xs bs L xs.length c) (hl:bs.length≤xs.length):
  jd (L.set xs.length c)=jd xs+jd bs∧jJ (L.set xs.length c)∧(L.set xs.length c).length=xs.length+1:=by
 obtain⟨h1,h2,h3,h4⟩:=h;rw[List.take_of_length_le (Nat.le_refl _),List.take_of_length_le hl] at h4
 refine⟨?_,yP h2 _ _ (by have:(2:Nat)≤WB:=by decide
                         omega),by simp[h1]⟩
 have:=JP L xs.length c (by omega);rw[List.take_of_length_le (by simp[h1])] at this;omega
def xQ (xs L:List Nat) (f a k:Nat):Prop:=L.length=xs.length+1∧jJ L∧jd (L.take (k+1))=jd (xs.take k)*f+a
theorem xQ.start (xs:List Nat) (f a:Nat) (ha:a<WB):xQ xs ((List.replicate (xs.length+1) 0).set 0 a) f a 0:=by
 refine⟨by simp,yP (Ku _) _ _ ha,?_⟩;rw[JP _ _ _ (by simp)];simp[jd]
theorem xQ.step {xs L:List Nat} {f a k d c hi lo:Nat} (h:xQ xs L f a k) (hk:k<xs.length) (hd:d<WB) (hc:hi+c<WB)
  (hp:xs[k]?.getD 0*f=hi*WB+lo) (he:L[k]?.getD 0+lo=d+WB*c):xQ xs ((L.set k d).set (k+1) (hi+c)) f a (k+1):=by
 obtain⟨h1,h2,h3⟩:=h;refine⟨by simp[h1],yP (yP h2 k d hd) _ _ hc,?_⟩;rw[JP _ _ _ (by simp;omega),JP L k d (by omega),qf xs,Nat.pow_succ];rw[qf] at h3
 have e:WB^k*(L[k]?.getD 0+lo)=WB^k*(d+WB*c):=by rw[he]
 have e2:WB^k*(xs[k]?.getD 0*f)=WB^k*(hi*WB+lo):=by rw[hp]
 simp only[Nat.mul_add,Nat.add_mul,Nat.mul_assoc] at e e2 h3 ⊢;rw[Nat.mul_comm hi WB] at e2;omega
theorem xQ.last {xs L:List Nat} {f a:Nat} (h:xQ xs L f a xs.length):jd L=jd xs*f+a:=by
 obtain⟨h1,h2,h3⟩:=h;rw[List.take_of_length_le (by omega),List.take_of_length_le (Nat.le_refl _)] at h3;exact h3
theorem V3 (x f:Nat) (hx:x<WB) (hf:f<WB):x*f/WB<WB∧x*f/WB*WB+x*f%WB=x*f∧x*f%WB<WB∧(∀r<WB,x*f/WB+(r+x*f%WB)/WB<WB):=by
 have h1:x*f≤(WB-1)*(WB-1):=Nat.mul_le_mul (by omega) (by omega);refine⟨?_,?_,Nat.mod_lt _ (by decide),fun r hr=> ?_⟩
 ·rw[Nat.div_lt_iff_lt_mul (by decide)];unfold WB at *;omega
 ·rw[Nat.mul_comm];exact Nat.div_add_mod _ _
 ·have h2:=Nat.div_add_mod (x*f) WB
  unfold WB at *;omega
def yp (xs L:List Nat) (b k r:Nat):Prop:=L.length=xs.length∧jJ L∧r<b∧jd (xs.drop k)=jd (L.drop k)*b+r
theorem yp.start (xs:List Nat) (b:Nat) (hb:0<b):yp xs (List.replicate xs.length 0) b xs.length 0:=
 ⟨by simp,Ku _,hb,by simp[jd]⟩
theorem Js (L:List Nat) (k:Nat) (h:k<L.length):L.drop k=L[k]?.getD 0::L.drop (k+1):=by
 rw[List.drop_eq_getElem_cons h,List.getElem?_eq_getElem h];rfl
theorem yp.step {xs L:List Nat} {b k r:Nat} (h:yp xs L b (k+1) r) (hk:k<xs.length) (hb:0<b) (hq:(r*WB+xs[k]?.getD 0)/b<WB):
  yp xs (L.set k ((r*WB+xs[k]?.getD 0)/b)) b k ((r*WB+xs[k]?.getD 0)%b):=by
 obtain⟨h1,h2,h3,h4⟩:=h;refine⟨by simp[h1],yP h2 _ _ hq,Nat.mod_lt _ hb,?_⟩;rw[Js xs k hk,Js (L.set k _) k (by simp;omega),Ju _ _ _ (by omega),List.drop_set_of_lt (by omega)];simp only[jd,h4];have:=Nat.div_add_mod (r*WB+xs[k]?.getD 0) b;generalize (r*WB+xs[k]?.getD 0)/b=q at *;generalize (r*WB+xs[k]?.getD 0)%b=r' at *
 have e:WB*(jd (L.drop (k+1))*b+r)=WB*jd (L.drop (k+1))*b+r*WB:=by rw[Nat.mul_add,Nat.mul_assoc,Nat.mul_comm WB r]
 rw[e,Nat.add_mul,Nat.mul_comm q b];omega
theorem UZ {b r x:Nat} (hr:r<b) (hx:x<WB):(r*WB+x)/b<WB:=by
 rw[Nat.div_lt_iff_lt_mul (by omega),Nat.mul_comm WB b];have:(r+1)*WB≤b*WB:=Nat.mul_le_mul_right _ hr;rw[Nat.add_mul] at this;omega
theorem yp.last {xs L:List Nat} {b r:Nat} (h:yp xs L b 0 r):jd L=jd xs/b∧r=jd xs%b:=by
 obtain⟨h1,h2,h3,h4⟩:=h;simp only[List.drop_zero] at h4;rw[h4];refine⟨?_,?_⟩
 ·rw[Nat.mul_comm,Nat.mul_add_div (by omega),Nat.div_eq_of_lt h3];omega
 ·rw[Nat.mul_comm,Nat.mul_add_mod,Nat.mod_eq_of_lt h3]
theorem Mi (L:List Nat) (j d:Nat) (h:j<L.length):jd (L.set j d)+WB^j*L[j]?.getD 0=jd L+WB^j*d:=by
 rw[X6 L j h,X6 (L.set j d) j (by simpa using h),JJ _ _ _ _ (Nat.le_refl _),Ju L j d h,List.drop_set_of_lt (by omega)];simp only[Nat.mul_add];omega
def zm (bs L0 L:List Nat) (f off k c:Nat):Prop:=L.length=L0.length∧jJ L∧L.drop (off+bs.length)=L0.drop (off+bs.length)∧c<WB ∧
 jd L+WB^(off+k)*c=jd L0+WB^off*(jd (bs.take k)*f)
theorem zm.start {bs L0:List Nat} (f off:Nat) (h:jJ L0):zm bs L0 L0 f off 0 0:=⟨rfl,h,rfl,by decide,by simp[jd]⟩
theorem zm.step {bs L0 L:List Nat} {f off k c d c':Nat} (h:zm bs L0 L f off k c) (hk:k<bs.length) (hlen:off+bs.length≤L0.length) (hd:d<WB) (hc:c'<WB)
  (he:d+WB*c'=L[off+k]?.getD 0+c+bs[k]?.getD 0*f):zm bs L0 (L.set (off+k) d) f off (k+1) c':=by
 obtain⟨h1,h2,h3,h4,h5⟩:=h;refine⟨by simp[h1],yP h2 _ _ hd,by rw[List.drop_set_of_lt (by omega)];exact h3,hc,?_⟩;have hs:=Mi L (off+k) d (by omega);rw[qf bs,show off+(k+1)=(off+k)+1 from by omega,Nat.pow_succ]
 have e:WB^(off+k)*(d+WB*c')=WB^(off+k)*(L[off+k]?.getD 0+c+bs[k]?.getD 0*f):=by rw[he]
 have e2:WB^off*(WB^k*bs[k]?.getD 0*f)=WB^(off+k)*(bs[k]?.getD 0*f):=by rw[Nat.pow_add,Nat.mul_assoc,Nat.mul_assoc]
 simp only[Nat.mul_add,Nat.add_mul,e2] at e hs h5 ⊢;rw[Nat.mul_assoc (WB^(off+k)) WB c'];omega
theorem Ex (x f c z:Nat) (hx:x<WB) (hf:f<WB) (hc:c<WB) (hz:z<WB):
  ∃hi lo l1 o1 d o2:Nat,x*f=hi*WB+lo∧lo<WB∧lo+c=l1+WB*o1∧l1<WB∧o1≤1∧hi+o1<WB∧z+l1=d+WB*o2∧d<WB∧o2≤1∧hi+o1+o2<WB∧d+WB*(hi+o1+o2)=z+c+x*f:=by
 have h1:x*f≤(WB-1)*(WB-1):=Nat.mul_le_mul (by omega) (by omega);have h2:=Nat.div_add_mod (x*f) WB;have h3:=Nat.mod_lt (x*f) (show 0<WB by decide);generalize x*f/WB=hi at *;generalize x*f%WB=lo at *;generalize x*f=p at *;unfold WB at *;refine⟨hi,lo,(lo+c)%18446744073709551616,(lo+c)/18446744073709551616,(z+(lo+c)%18446744073709551616)%18446744073709551616,(z+(lo+c)%18446744073709551616)/18446744073709551616,?_,?_,?_,?_,?_,?_,?_,?_,?_,?_,?_⟩ <;> omega
def yW (xs bs L:List Nat) (k:Nat):Prop:=L.length=xs.length+bs.length∧jJ L∧jd L=jd (xs.take k)*jd bs∧L.drop (k+bs.length)=List.replicate (xs.length-k) 0
theorem yW.start (xs bs:List Nat):yW xs bs (List.replicate (xs.length+bs.length) 0) 0:=by
 refine⟨by simp,Ku _,?_,by simp⟩;simp only[List.take_zero,jd,Nat.zero_mul]
 induction (xs.length+bs.length) with
 | zero=>rfl
 | succ n ih=>simp[List.replicate_succ,jd,ih]
theorem yW.step {xs bs L L':List Nat} {k c:Nat} (h:yW xs bs L k) (hk:k<xs.length) (ha:zm bs L L' (xs[k]?.getD 0) k bs.length c):
  yW xs bs (L'.set (k+bs.length) c) (k+1):=by
 obtain⟨h1,h2,h3,h4⟩:=h;obtain⟨a1,a2,a3,a4,a5⟩:=ha;have hs:=Mi L' (k+bs.length) c (by omega)
 have hz:L'[k+bs.length]?.getD 0=0:=by
  have:L'.drop (k+bs.length)=List.replicate (xs.length-k) 0:=by rw[a3,h4]
  have e:(L'.drop (k+bs.length))[0]?.getD 0=L'[k+bs.length]?.getD 0:=by simp
  rw[←e,this];rw[List.getElem?_replicate];split <;> rfl
 rw[hz] at hs;refine⟨by simp;omega,yP a2 _ _ a4,?_,?_⟩
 ·rw[qf xs]
  rw[List.take_of_length_le (Nat.le_refl _),h3] at a5;simp only[Nat.add_mul];rw[Nat.mul_assoc,Nat.mul_comm (xs[k]?.getD 0) (jd bs)];omega
 ·rw[show k+1+bs.length=k+bs.length+1 from by omega,List.drop_set_of_lt (by omega),←List.drop_drop,a3,h4,List.drop_replicate]
  congr 1
theorem yW.last {xs bs L:List Nat} (h:yW xs bs L xs.length):jd L=jd xs*jd bs:=by
 obtain⟨h1,h2,h3,h4⟩:=h;rw[h3,List.take_of_length_le (Nat.le_refl _)]
end Go.Proofs.YtneafcdfnhnpnaaGreatDoor
namespace Go.Proofs.YtneafcdfnhnpnaaGreatDoor
open Go.RowKit
theorem KB (x y c:Int) (hx:0≤x) (hx2:x<18446744073709551616) (hy:0≤y) (hy2:y<18446744073709551616) (hc0:0≤c) (hc:c≤1) (w:World):
  (callFunc 194 #[.int .u64 x,.int .u64 y,.int .u64 c]).run Tryz.prog w =
  .ok (.value (.tuple #[.int .u64 ((x+y+c)%18446744073709551616),.int .u64 ((x+y+c)/18446744073709551616)])) w:=by
 obtain⟨x,rfl⟩:=Int.eq_ofNat_of_zero_le hx;obtain⟨y,rfl⟩:=Int.eq_ofNat_of_zero_le hy;obtain⟨c,rfl⟩:=Int.eq_ofNat_of_zero_le hc0;rw[run_callFunc_extern Tryz.func194 (by kernel_rfl) (by kernel_rfl) (by kernel_rfl) (e:=add64Entry) (by kernel_rfl),run_add64 x y c (by omega) (by omega) (by omega) (by omega)];rfl
theorem KD (x y:Int) (hx:0≤x) (hx2:x<18446744073709551616) (hy:0≤y) (hy2:y<18446744073709551616) (w:World):
  (callFunc 194 #[.int .u64 x,.int .u64 y,.int .u64 0]).run Tryz.prog w =
  .ok (.value (.tuple #[.int .u64 ((x+y)%18446744073709551616),.int .u64 ((x+y)/18446744073709551616)])) w:=by
 simpa using KB x y 0 hx hx2 hy hy2 (Int.le_refl 0) (by decide) w
def yX (x y:Int):Int:=if x<y then 1 else 0
theorem XM (x y b:Int) (hx:0≤x) (hx2:x<18446744073709551616) (hy:0≤y) (hy2:y<18446744073709551616) (hb0:0≤b) (hb:b≤1) (w:World):
  (callFunc 249 #[.int .u64 x,.int .u64 y,.int .u64 b]).run Tryz.prog w =
  .ok (.value (.tuple #[.int .u64 ((x-y-b)%18446744073709551616),.int .u64 (yX x (y+b))])) w:=by
 obtain⟨x,rfl⟩:=Int.eq_ofNat_of_zero_le hx;obtain⟨y,rfl⟩:=Int.eq_ofNat_of_zero_le hy;obtain⟨b,rfl⟩:=Int.eq_ofNat_of_zero_le hb0
 have e1:(((x+18446744073709551616-y-b)%18446744073709551616:Nat):Int)=((x:Int)-y-b)%18446744073709551616:=by omega
 have e2:((if x<y+b then 1 else 0:Nat):Int)=yX x (y+b):=by unfold yX;split <;> split <;> omega
 rw[←e1,←e2];rw[run_callFunc_extern Tryz.func249 (by kernel_rfl) (by kernel_rfl) (by kernel_rfl) (e:=sub64Entry) (by kernel_rfl),run_sub64 x y b (by omega)];rfl
theorem GG (x y:Int) (hx:0≤x) (hx2:x<18446744073709551616) (hy:0≤y) (hy2:y<18446744073709551616) (w:World):
  (callFunc 249 #[.int .u64 x,.int .u64 y,.int .u64 0]).run Tryz.prog w =
  .ok (.value (.tuple #[.int .u64 ((x-y)%18446744073709551616),.int .u64 (yX x y)])) w:=by
 simpa using XM x y 0 hx hx2 hy hy2 (Int.le_refl 0) (by decide) w
theorem GH (x b:Int) (hx:0≤x) (hx2:x<18446744073709551616) (hb0:0≤b) (hb:b≤1) (w:World):
  (callFunc 249 #[.int .u64 x,.int .u64 0,.int .u64 b]).run Tryz.prog w =
  .ok (.value (.tuple #[.int .u64 ((x-b)%18446744073709551616),.int .u64 (yX x b)])) w:=by
 simpa using XM x 0 b hx hx2 (by omega) (by omega) hb0 hb w
theorem Un (x c:Int) (hx:0≤x) (hx2:x<18446744073709551616) (hc0:0≤c) (hc:c≤1) (w:World):
  (callFunc 194 #[.int .u64 x,.int .u64 0,.int .u64 c]).run Tryz.prog w =
  .ok (.value (.tuple #[.int .u64 ((x+c)%18446744073709551616),.int .u64 ((x+c)/18446744073709551616)])) w:=by
 simpa using KB x 0 c hx hx2 (by omega) (by omega) hc0 hc w
def ja (w:World) (g:Nat) (t:TypeId) (cs:List Value):Prop:=w.heap[g]? =some (.cells cs.toArray t (0,0))
section
variable {w w':World} {g:Nat} {t:TypeId} {cs:List Value}
theorem ja.lt (h:ja w g t cs):g<w.heap.size:=by
 rcases Nat.lt_or_ge g w.heap.size with hlt | hge
 ·exact hlt
 ·unfold ja at h;rw[Array.getElem?_eq_none hge] at h;cases h
theorem ja.cell (h:ja w g t cs) (i:Nat):w.cell? ⟨g,i,none⟩=cs[i]? :=by
 rw[cell_of_row w g i cs.toArray t (0,0) h];simp
theorem ja.free (h:ja w g t cs) (i:Nat):w.frozen? ⟨g,i,none⟩=false:=by
 unfold ja at h;simp[World.frozen?,h]
theorem ja.make (w:World) (t:TypeId) (cs:List Value):ja (w.alloc (.cells cs.toArray t)) w.heap.size t cs:=heap_alloc_new w _
theorem ja.drewN (h:ja w g t cs) (n:Nat):ja (w.drewN n) g t cs:=h
theorem ja.alloc (h:ja w g t cs) (o:Obj):ja (w.alloc o) g t cs:=(Below.heap_alloc w o g h.lt).trans h
theorem ja.put (h:ja w g t cs) (i:Nat) (u:Value):ja (w.setCell ⟨g,i,none⟩ u) g t (cs.set i u):=by
 unfold ja at h ⊢;simp[World.setCell,Array.getElem?_modify,h]
theorem ja.other (h:ja w g t cs) {p:Addr} (hp:g≠p.block) (u:Value):ja (w.setCell p u) g t cs:=(Below.heap_setCell w p u g hp).trans h
theorem ja.below {B:Nat} (h:ja w g t cs) (hb:Below B w w') (hg:g<B):ja w' g t cs:=(hb.block g hg).trans h
theorem ja.sl (h:ja w g t cs) (n:Nat) (hn:cs.length=n) (hs:n≤140737488355328):Sl w 1 (.slice (some ⟨g,0,none⟩) n n) cs:=by
 refine⟨_,n,n,rfl,by omega,hs,by omega,fun _=>⟨g,0,rfl,h.lt,fun j u hu=> ?_⟩⟩;rw[Nat.zero_add,h.cell,hu]
end
theorem z7 (z:Value) (n:Nat):madeCells #[z] n=(List.replicate n z).toArray:=by
 rw[←toList_madeCells_one]
theorem B0 (n:Nat):List.replicate n (Value.int .u64 0)=jy (List.replicate n 0):=by simp[jy]
theorem kF (L:List Nat) (k x:Nat):(jy L).set k (.int .u64 (x:Int))=jy (L.set k x):=by simp[jy,List.map_set]
theorem jL (ws:List Nat) (k:Nat) (h:k<ws.length):(jy ws)[k]? =some (Value.int .u64 ((ws[k]?.getD 0:Nat):Int)):=by simp[jy,h]
theorem Nb:(Tryz.prog.info? 148).map (fun i=>(i.zero,i.size,i.bytes))=some (some (.int .u64 0),1,8):=by kernel_rfl
theorem ye (w:World) (n:Nat) (hn:n≤17592186044416):(Instr.makeSlice 120 (.int .i64 (n:Int)) (.int .i64 (n:Int))).run Tryz.prog w = .ok (.slice (some ⟨w.heap.size,0,none⟩) n n) (w.alloc (.cells (jy (List.replicate n 0)).toArray 148)):=by
 have:=run_make_row' (P:=Tryz.prog) 120 148 (.int .u64 0) 8 Tryz.underlying120 Nb rfl .i64 .i64 n (by omega) (by omega) w;rw[z7,B0] at this;exact this
theorem ZI (x y b:Nat) (hx:x<WB) (hy:y<WB) (hb:b≤1):
  ∃d br:Nat,((x:Int)-y-b)%18446744073709551616=d∧yX x ((y:Int)+b)=br∧d<WB∧br≤1∧x+WB*br=d+y+b:=by
 unfold WB at *;refine⟨(((x:Int)-y-b)%18446744073709551616).toNat,if (x:Int)<y+b then 1 else 0,by omega,?_,by omega,?_,?_⟩
 ·unfold yX;split <;> rfl
 ·split <;> omega
 ·split <;> omega
theorem GJ (x b:Nat) (hx:x<WB) (hb:b≤1):
  ∃d br:Nat,((x:Int)-b)%18446744073709551616=d∧yX x (b:Int)=br∧d<WB∧br≤1∧x+WB*br=d+0+b:=by
 have:=ZI x 0 b hx (by decide) hb;simpa using this
theorem Yf (x y c:Nat) (hx:x<WB) (hy:y<WB) (hb:c≤1):
  ∃d k:Nat,((x:Int)+y+c)%18446744073709551616=d∧((x:Int)+y+c)/18446744073709551616=k∧d<WB∧k≤1∧x+y+c=d+WB*k:=by
 unfold WB at *;exact⟨(x+y+c)%18446744073709551616,(x+y+c)/18446744073709551616,by omega,by omega,by omega,by omega,by omega⟩
theorem JW (x c:Nat) (hx:x<WB) (hb:c<WB):
  ∃d k:Nat,((x:Int)+c)%18446744073709551616=d∧((x:Int)+c)/18446744073709551616=k∧d<WB∧k≤1∧x+c=d+WB*k:=by
 unfold WB at *;exact⟨(x+c)%18446744073709551616,(x+c)/18446744073709551616,by omega,by omega,by omega,by omega,by omega⟩
theorem K1 (x y hi lo:Nat) (w:World) (hx:x<WB) (hy:y<WB) (h:x*y=hi*WB+lo) (hlo:lo<WB):
  Calls Tryz.prog 193 #[.int .u64 x,.int .u64 y] w fun e w'=>e = .returned (.tuple #[.int .u64 hi,.int .u64 lo])∧w=w':=by
 refine(Tryz.bits_Mul64 x y hx hy w).mono fun e w' ⟨h1,h2⟩=>⟨?_,h2.symm⟩
 have e1:x*y/18446744073709551616=hi:=by unfold WB at *;omega
 have e2:x*y%18446744073709551616=lo:=by unfold WB at *;omega
 rw[h1,e1,e2]
theorem UW (lo y q r:Nat) (w:World) (hl:lo<WB) (h:lo=q*y+r) (hr:r<y):
  Calls Tryz.prog 234 #[.int .u64 0,.int .u64 lo,.int .u64 y] w fun e w'=>e = .returned (.tuple #[.int .u64 q,.int .u64 r]) ∧ ∃n,w'=w.drewN n:=by
 have hy0:((y:Int)==0)=false:=by simpa using (by omega:¬(y:Int)=0)
 have hq:lo/y=q:=by rw[h,Nat.mul_comm,Nat.mul_add_div (by omega),Nat.div_eq_of_lt hr];omega
 have hm:lo%y=r:=by rw[h,Nat.mul_comm,Nat.mul_add_mod,Nat.mod_eq_of_lt hr]
 have Hq:=Lib.hid hq;clear hq;have Hm:=Lib.hid hm;clear hm;have H:=Lib.hid h;clear h;unfold WB at hl;go_enter Tryz.func234,Tryz.ntmps234
 go_wp2
 go_quiet (fail)
 go_wp2
 go_ret2;refine⟨?_,nq,rfl⟩
 have e1:((lo:Int)/(y:Int))=(q:Int):=by rw[←Hq.out];rfl
 have e2:((lo:Int)%(y:Int))=(r:Int):=by rw[←Hm.out];rfl
 have e3:q≤lo:=by rw[←Hq.out];exact Nat.div_le_self _ _
 exact yL (by rw[e1,IntWalk.u64_in _ (by omega)]) e2
def MC:Prop:=∀(hi lo y q r:Nat) (w:World),hi<y→lo<WB→y<WB→hi*WB+lo=q*y+r→r<y →
  Calls Tryz.prog 234 #[.int .u64 hi,.int .u64 lo,.int .u64 y] w fun e w'=>e = .returned (.tuple #[.int .u64 q,.int .u64 r]) ∧ ∃n,w'=w.drewN n
