/- Contracts of the reference: sums and products of short numbers. -/
import Derived.Test.YtneafcdfnhnpnaaGreatDoorZK10
set_option maxRecDepth 100000
set_option maxHeartbeats 4000000
namespace Go.Proofs.YtneafcdfnhnpnaaGreatDoor
open Go.RowKit Go.Lib
theorem Zo {a b:Int} (ha:a.natAbs<1000000000) (hb:b.natAbs<1000000000): -1000000000000000000≤a*b∧a*b≤1000000000000000000:=by
 have h:(a*b).natAbs≤1000000000*1000000000:=by
  rw[Int.natAbs_mul];exact Nat.mul_le_mul (Nat.le_of_lt ha) (Nat.le_of_lt hb)
 omega
theorem V5 {a b:Nat} (ha:a<1000000000) (hb:b<1000000000):a*b≤1000000000000000000:=
 Nat.le_trans (Nat.mul_le_mul (Nat.le_of_lt ha) (Nat.le_of_lt hb)) (by decide)
def Xt (n:Int) (d:Int) (w:World) (e:Ending) (w':World):Prop:=e = .returned (.tuple #[.int .i64 n,.int .i64 d,.bool true])∧w=w'
theorem Mt (s t:ByteArray) (l:List UInt8) (n d m e X1 X2 X3:Int) (w:World) (hs:Hid (∀w,Calls Tryz.prog 116 #[.string s] w (Xt n d w))) (ht:Hid (∀w,Calls Tryz.prog 116 #[.string t] w (Xt m e w)))
  (h1:wrap64 (n*e)=X1) (h2:wrap64 (m*d)=X2) (h3:wrap64 (d*e)=X3) (b1: -1000000000000000000≤X1∧X1≤1000000000000000000) (b2: -1000000000000000000≤X2∧X2≤1000000000000000000)
  (hO:Hid (∀w,Calls Tryz.prog 35 #[.int .i64 (X1+X2),.int .i64 X3] w (kn l w))):
  Calls Tryz.prog 26 #[.string s,.string t] w (kn l w):=by
 go_enter Tryz.func26,Tryz.ntmps26
 go_wp2_with fail
 refine(hs.out _).mono ?_;rintro e1 w1 ⟨rfl,rfl⟩
 go_wp2_with fail
 refine(ht.out _).mono ?_;rintro e1 w1 ⟨rfl,rfl⟩
 go_wp2_with fail
 refine(hO.out _).mono ?_;rintro e1 w1 ⟨rfl,hB⟩
 go_wp2
 go_ret;exact⟨rfl,hB⟩
theorem MR (s t:ByteArray) (l:List UInt8) (n d m e X1 X3:Int) (w:World) (hs:Hid (∀w,Calls Tryz.prog 116 #[.string s] w (Xt n d w))) (ht:Hid (∀w,Calls Tryz.prog 116 #[.string t] w (Xt m e w)))
  (h1:wrap64 (n*m)=X1) (h3:wrap64 (d*e)=X3)
  (hO:Hid (∀w,Calls Tryz.prog 35 #[.int .i64 X1,.int .i64 X3] w (kn l w))):
  Calls Tryz.prog 28 #[.string s,.string t] w (kn l w):=by
 go_enter Tryz.func28,Tryz.ntmps28
 go_wp2_with fail
 refine(hs.out _).mono ?_;rintro e1 w1 ⟨rfl,rfl⟩
 go_wp2_with fail
 refine(ht.out _).mono ?_;rintro e1 w1 ⟨rfl,rfl⟩
 go_wp2_with fail
 refine(hO.out _).mono ?_;rintro e1 w1 ⟨rfl,hB⟩
 go_wp2
 go_ret;exact⟨rfl,hB⟩
theorem Ms (p q:Rat) (w:World) (hp:qm p) (hq:qm q):
  Calls Tryz.prog 26 #[.string ⟨(jg p).toArray⟩,.string ⟨(jg q).toArray⟩] w (kn (jg (p+q)) w):=by
 have e1:=Zo (a:=p.num) (b:=(q.den:Int)) hp.1 hq.2;have e2:=Zo (a:=q.num) (b:=(p.den:Int)) hq.1 hp.2;have e3:=V5 hp.2 hq.2;have hdp:=Nat.mul_pos p.den_pos q.den_pos
 refine Mt _ _ _ p.num p.den q.num q.den (p.num*q.den) (q.num*p.den) ((p.den*q.den:Nat):Int) w (hid fun w=>Qe p w hp) (hid fun w=>Qe q w hq)
  (IntWalk.wrap64_in _ (by omega)) (IntWalk.wrap64_in _ (by omega)) (by rw[←Int.natCast_mul];exact IntWalk.wrap64_in _ (by omega)) e1 e2 (hid fun w=> ?_)
 have h:=Ud (p.num*q.den+q.num*p.den) (p.den*q.den) w (by omega) hdp (by omega);rw[←Rat.add_def'] at h;exact h
theorem MQ (p q:Rat) (w:World) (hp:qm p) (hq:qm q):
  Calls Tryz.prog 28 #[.string ⟨(jg p).toArray⟩,.string ⟨(jg q).toArray⟩] w (kn (jg (p*q)) w):=by
 have e1:=Zo (a:=p.num) (b:=q.num) hp.1 hq.1;have e3:=V5 hp.2 hq.2;have hdp:=Nat.mul_pos p.den_pos q.den_pos
 refine MR _ _ _ p.num p.den q.num q.den (p.num*q.num) ((p.den*q.den:Nat):Int) w (hid fun w=>Qe p w hp) (hid fun w=>Qe q w hq)
  (IntWalk.wrap64_in _ (by omega)) (by rw[←Int.natCast_mul];exact IntWalk.wrap64_in _ (by omega)) (hid fun w=> ?_)
 have h:=Ud (p.num*q.num) (p.den*q.den) w (by omega) hdp (by omega);rw[←Rat.mul_def'] at h;exact h
theorem qO (n:Nat):jg ((n:Int):Rat)=decDigits n:=by
 rw[←VD];unfold xe;rw[if_neg (by omega)];rfl
theorem QB (n:Nat) (w:World) (h:n≤9223372036854775807):
  Calls Tryz.prog 142 #[.int .i64 n] w (kn (decDigits n) w):=by
 have h2:=MG (n:Int) w (by omega);rw[VD,qO] at h2;exact h2
def jw:Nat→Nat
 | 0=>1
 | n+1=>(n+1)*jw n
theorem YL (n:Nat):0<jw n:=by
 induction n with
 | zero=>decide
 | succ n ih=>exact Nat.mul_pos (Nat.succ_pos n) ih
theorem Ta {m n:Nat} (h:m≤n):jw m≤jw n:=by
 induction n with
 | zero=>rw[Nat.le_zero.1 h];exact Nat.le_refl _
 | succ n ih=>
  rcases Nat.lt_or_ge n m with h1 | h1
  ·rw[show m=n+1 from by omega];exact Nat.le_refl _
  ·exact Nat.le_trans (ih h1) (Nat.le_mul_of_pos_left _ (Nat.succ_pos n))
def xX (na:Bool) (x:Nat) (nb:Bool) (y:Nat):Bool×Nat:=
 if na=nb then (na,x+y) else if x=y then (false,0) else if y<x then (na,x-y) else (nb,y-x)
theorem DC {x y:Nat} (h:x=y):kj x y=0:=by unfold kj;rw[if_neg (by omega),if_neg (by omega)]
theorem DE {x y:Nat} (h:y<x):kj x y=1:=by unfold kj;rw[if_neg (by omega),if_pos h]
theorem DF {x y:Nat} (h:x<y):kj x y = -1:=by unfold kj;rw[if_pos h]
def GL (r:Bool×Nat) (w:World) (e:Ending) (w':World):Prop:=∃v,e = .returned (.tuple #[.bool r.1,v])∧Nt w' v r.2∧Below w.heap.size w w'
theorem CG (na nb:Bool) (v u:Value) (x y:Nat) (w:World) (h:Nt w v x) (h':Nt w u y) (f1:jl x) (f2:jl y):
  Calls Tryz.prog 177 #[.bool na,v,.bool nb,u] w (GL (xX na x nb y) w):=by
 have HS:=hid (rfl:xX na x nb y=xX na x nb y)
 conv at HS=>rhs;rhs;unfold xX
 generalize xX na x nb y=r at *;by_cases he:na=nb
 ·have HS':=hid (HS.out.trans (if_pos he))
  clear HS
  have hb:(na==nb)=true:=by simp[he]
  clear he;go_enter Tryz.func177,Tryz.ntmps177
  go_wp2_with (go_at_call 228;refine(Aa v u x y _ h h' f1 f2).mono ?_;rintro e w2 ⟨s,rfl,hs,hB⟩)
  go_ret2;exact⟨s,by rw[HS'.out];rfl,by rw[HS'.out];exact hs,hB⟩
 ·have HS1:=hid (HS.out.trans (if_neg he))
  have hb:(na==nb)=false:=by simpa using he
  clear HS he;by_cases hxy:x=y
  ·have HS2:=hid (HS1.out.trans (if_pos hxy))
   have Ho:=hid (DC hxy);clear HS1 hxy;go_enter Tryz.func177,Tryz.ntmps177
   go_wp2_with (go_at_call 220;refine(qW v u x y _ h h').mono ?_;rintro e w2 ⟨rfl,n,rfl⟩;rw[Ho.out])
   go_ret2;exact⟨_,by rw[HS2.out];rfl,by rw[HS2.out];exact Nt.nil,below_drewN (Below.refl _ _) n⟩
  ·have HS2:=hid (HS1.out.trans (if_neg hxy))
   clear HS1;by_cases hlt:y<x
   ·have HS3:=hid (HS2.out.trans (if_pos hlt))
    have Ho:=hid (DE hlt);have Hl:=hid (Nat.le_of_lt hlt);clear HS2 hxy hlt;go_enter Tryz.func177,Tryz.ntmps177
    go_wp2_with (first
     | (go_at_call 220;refine(qW v u x y _ h h').mono ?_;rintro e w2 ⟨rfl,n,rfl⟩;rw[Ho.out])
     | (go_at_call 229;refine(VW v u x y _ (h.drewN n) (h'.drewN n) Hl.out f1).mono ?_;rintro e w3 ⟨s,rfl,hs,hB⟩))
    go_ret2;exact⟨s,by rw[HS3.out];rfl,by rw[HS3.out];exact hs,(below_drewN (Below.refl _ w) n).trans hB⟩
   ·have HS3:=hid (HS2.out.trans (if_neg hlt))
    have Ho:=hid (DF (show x<y by omega));have Hl:=hid (show x≤y by omega);clear HS2 hxy hlt;go_enter Tryz.func177,Tryz.ntmps177
    go_wp2_with (first
     | (go_at_call 220;refine(qW v u x y _ h h').mono ?_;rintro e w2 ⟨rfl,n,rfl⟩;rw[Ho.out])
     | (go_at_call 229;refine(VW u v y x _ (h'.drewN n) (h.drewN n) Hl.out f2).mono ?_;rintro e w3 ⟨s,rfl,hs,hB⟩))
    go_ret2;exact⟨s,by rw[HS3.out];rfl,by rw[HS3.out];exact hs,(below_drewN (Below.refl _ w) n).trans hB⟩
theorem VV (num:Int) (den g:Nat) (h1:(g:Int)∣num) (h2:g∣den) (h3:den/g≠0) (h4:(num/g).natAbs.Coprime (den/g)):(Rat.maybeNormalize num den g h1 h2 h3 h4).num=num/g∧(Rat.maybeNormalize num den g h1 h2 h3 h4).den=den/g:=by
 unfold Rat.maybeNormalize;split
 ·rename_i h;subst h;simp
 ·simp
theorem Et (p q:Rat):(p+q).num=(p.num*((q.den/Nat.gcd p.den q.den:Nat):Int)+q.num*((p.den/Nat.gcd p.den q.den:Nat):Int))/((Nat.gcd (p.num*((q.den/Nat.gcd p.den q.den:Nat):Int)+q.num*((p.den/Nat.gcd p.den q.den:Nat):Int)).natAbs (Nat.gcd p.den q.den):Nat):Int)
  ∧ (p+q).den=(p.den/Nat.gcd p.den q.den)*(q.den/Nat.gcd (p.num*((q.den/Nat.gcd p.den q.den:Nat):Int)+q.num*((p.den/Nat.gcd p.den q.den:Nat):Int)).natAbs (Nat.gcd p.den q.den)):=by
 change (Rat.add p q).num=_∧(Rat.add p q).den=_;unfold Rat.add;dsimp only;have hgq:Nat.gcd p.den q.den∣q.den:=Nat.gcd_dvd_right _ _;split
 ·rename_i h1
  simp[h1]
 ·rename_i h1
  have hcg:=Nat.gcd_dvd_right (p.num*((q.den/Nat.gcd p.den q.den:Nat):Int)+q.num*((p.den/Nat.gcd p.den q.den:Nat):Int)).natAbs (Nat.gcd p.den q.den);have hcq:=Nat.dvd_trans hcg hgq;refine⟨(VV _ _ _ _ _ _ _).1,?_⟩;exact(VV _ _ _ _ _ _ _).2.trans (Nat.mul_div_assoc _ hcq)
theorem C5 (na nb:Bool) (x y:Nat):sg (xX na x nb y).1 (xX na x nb y).2=sg na x+sg nb y:=by
 unfold xX;by_cases h1:na=nb
 ·subst h1;rw[if_pos rfl];cases na <;> simp[sg] <;> omega
 ·rw[if_neg h1]
  by_cases h2:x=y
  ·rw[if_pos h2];cases na <;> cases nb <;> simp_all [sg] <;> omega
  ·rw[if_neg h2]
   by_cases h3:y<x
   ·rw[if_pos h3];cases na <;> cases nb <;> simp_all [sg] <;> omega
   ·rw[if_neg h3];cases na <;> cases nb <;> simp_all [sg] <;> omega
theorem GM (na nb:Bool) (x y:Nat):(xX na x nb y).2=(sg na x+sg nb y).natAbs:=by
 rw[←C5];unfold sg;split <;> simp
theorem C6 (na nb:Bool) (x y:Nat) (hx:na=true→x≠0) (hy:nb=true→y≠0):(xX na x nb y).1=decide (sg na x+sg nb y<0):=by
 unfold xX;by_cases h1:na=nb
 ·subst h1;rw[if_pos rfl];cases na <;> simp_all [sg] <;> omega
 ·rw[if_neg h1]
  by_cases h2:x=y
  ·rw[if_pos h2];cases na <;> cases nb <;> simp_all [sg] <;> omega
  ·rw[if_neg h2]
   by_cases h3:y<x
   ·rw[if_pos h3];cases na <;> cases nb <;> simp_all [sg] <;> omega
   ·rw[if_neg h3];cases na <;> cases nb <;> simp_all [sg] <;> omega
def kA (p:Rat):Prop:=jl p.num.natAbs∧jl p.den
def xM (p q:Rat):Prop:=kA p∧kA q∧jl (p.num.natAbs*q.den+q.num.natAbs*p.den)
theorem ZB (p:Rat):sg (decide (p.num<0)) p.num.natAbs=p.num:=by
 unfold sg;by_cases h:p.num<0
 ·rw[decide_eq_true h,if_pos rfl];omega
 ·rw[decide_eq_false h,if_neg (by simp)];omega
theorem Ae (p q:Rat) (g:Nat) (hg:Nat.gcd p.den q.den=g) (r:Bool×Nat) (hr:xX (decide (p.num<0)) (p.num.natAbs*(q.den/g)) (decide (q.num<0)) (q.num.natAbs*(p.den/g))=r):
  decide ((p+q).num<0)=r.1∧(p+q).num.natAbs=r.2/Nat.gcd r.2 g∧(p+q).den=p.den/g*(q.den/Nat.gcd r.2 g):=by
 obtain⟨h1,h2⟩:=Et p q;rw[hg] at h1 h2
 have hgp:0<g:=by rw[←hg];exact Nat.gcd_pos_of_pos_left _ p.den_pos
 have hA:0<q.den/g:=Nat.div_pos (by rw[←hg];exact Nat.gcd_le_right _ q.den_pos) hgp;have hB:0<p.den/g:=Nat.div_pos (by rw[←hg];exact Nat.gcd_le_left _ p.den_pos) hgp
 have e1:p.num*((q.den/g:Nat):Int)=sg (decide (p.num<0)) (p.num.natAbs*(q.den/g)):=by rw[XG,ZB]
 have e2:q.num*((p.den/g:Nat):Int)=sg (decide (q.num<0)) (q.num.natAbs*(p.den/g)):=by rw[XG,ZB]
 rw[e1,e2] at h1 h2
 have hn:=C6 (decide (p.num<0)) (decide (q.num<0)) (p.num.natAbs*(q.den/g)) (q.num.natAbs*(p.den/g)) (fun h=>by
  have:=of_decide_eq_true h
  exact Nat.mul_ne_zero (by omega) (by omega)) (fun h=>by
  have:=of_decide_eq_true h
  exact Nat.mul_ne_zero (by omega) (by omega))
 have ha:=GM (decide (p.num<0)) (decide (q.num<0)) (p.num.natAbs*(q.den/g)) (q.num.natAbs*(p.den/g));rw[hr] at hn ha;generalize sg (decide (p.num<0)) (p.num.natAbs*(q.den/g))+sg (decide (q.num<0)) (q.num.natAbs*(p.den/g))=T at *;rw[←ha] at h1 h2;have hc:0<Nat.gcd r.2 g:=Nat.gcd_pos_of_pos_right _ hgp
 have hd:((Nat.gcd r.2 g:Nat):Int)∣T:=by
  have:Nat.gcd r.2 g∣T.natAbs:=by rw[←ha];exact Nat.gcd_dvd_left _ _
  exact Int.ofNat_dvd_left.mpr this
 generalize Nat.gcd r.2 g=c at *;obtain⟨z,hz⟩:=hd
 have hzz:T/(c:Int)=z:=by rw[hz];exact Int.mul_ediv_cancel_left _ (by omega)
 rw[hzz] at h1;refine⟨?_,?_,h2⟩
 ·rw[h1,hn]
  apply decide_eq_decide.mpr;constructor
  ·intro h;rw[hz];exact Int.mul_neg_of_pos_of_neg (by omega) h
  ·intro h
   by_cases h3:z<0
   ·exact h3
   ·have:0≤(c:Int)*z:=Int.mul_nonneg (by omega) (by omega)
    omega
 ·rw[h1]
  have:r.2=c*z.natAbs:=by rw[ha,hz,Int.natAbs_mul];simp
  conv=>rhs;lhs;rw[this]
  rw[Nat.mul_div_cancel_left _ hc]
theorem xn {a b:World} (h:Below a.drew.heap.size a.drew b):Below a.heap.size a b:=⟨h.os,h.tape,h.output,h.size,h.block⟩
theorem qj {x x':World} {R:Nat} {t:TypeId} {cs:List Value} (hb:Below x.heap.size x x') (h:Hid (ja x R t cs)):Hid (ja x' R t cs):=hid (h.out.below hb h.out.lt)
theorem WM (v u:Value) (p q:Rat) (w:World) (h:Rt w v p) (h':Rt w u q) (hf:xM p q):
  Calls Tryz.prog 108 #[v,u] w (qC (p+q) w):=by
 obtain⟨nv,dv,rfl,h1,h2⟩:=h;obtain⟨mv,ev,rfl,h3,h4⟩:=h';have hdp:=p.den_pos;have heq:=q.den_pos
 obtain⟨g,hg⟩:∃g,Nat.gcd p.den q.den=g:=⟨_,rfl⟩
 obtain⟨r,hr⟩:∃r,xX (decide (p.num<0)) (p.num.natAbs*(q.den/g)) (decide (q.num<0)) (q.num.natAbs*(p.den/g))=r:=⟨_,rfl⟩
 have PP:=hid (Ae p q g hg r hr)
 have hgp:0<g:=by rw[←hg];exact Nat.gcd_pos_of_pos_left _ p.den_pos
 have fx:jl (p.num.natAbs*(q.den/g)):=hf.2.2.le (Nat.le_trans (Nat.mul_le_mul_left _ (Nat.div_le_self _ _)) (Nat.le_add_right _ _));have fy:jl (q.num.natAbs*(p.den/g)):=hf.2.2.le (Nat.le_trans (Nat.mul_le_mul_left _ (Nat.div_le_self _ _)) (Nat.le_add_left _ _))
 have fr:jl r.2:=hf.2.2.le (by
  have ha:=GM (decide (p.num<0)) (decide (q.num<0)) (p.num.natAbs*(q.den/g)) (q.num.natAbs*(p.den/g));rw[hr] at ha;have h1:p.num.natAbs*(q.den/g)≤p.num.natAbs*q.den:=Nat.mul_le_mul_left _ (Nat.div_le_self _ _);have h2:q.num.natAbs*(p.den/g)≤q.num.natAbs*p.den:=Nat.mul_le_mul_left _ (Nat.div_le_self _ _);unfold sg at ha
  split at ha <;> split at ha <;> omega)
 have fn:=hf.1.1;have fd:=hf.1.2;have fm:=hf.2.1.1;have fe:=hf.2.1.2;clear hf;have fA:jl (q.den/g):=fe.le (Nat.div_le_self _ _);have fB:jl (p.den/g):=fd.le (Nat.div_le_self _ _);have SS:=hid (fun (x y:Value) W (hx:Nt W x (p.num.natAbs*(q.den/g))) (hy:Nt W y (q.num.natAbs*(p.den/g)))=>(by have:=CG (decide (p.num<0)) (decide (q.num<0)) x y _ _ W hx hy fx fy;rw[hr] at this;exact this:Calls Tryz.prog 177 #[.bool (decide (p.num<0)),x,.bool (decide (q.num<0)),y] W (GL r W)));obtain⟨s,z⟩:=r;dsimp only at PP fr;have HR:=hid hr;have HGg:=hid hg;clear hr hg fx fy;generalize decide (p.num<0)=na at *;generalize decide (q.num<0)=nb at *;generalize p.num.natAbs=n at *;generalize q.num.natAbs=m at *;generalize hpd:p.den=d at *;generalize hqe:q.den=e at *;have Hpd:=hid hpd;have Hqe:=hid hqe;clear hpd hqe
 obtain⟨W0,hW0⟩:∃W0,W0=((w.alloc (.cells #[.bool na,nv,dv] 122)).alloc (.cells #[.bool nb,mv,ev] 122)).alloc (.cells #[.bool false,.slice none 0 0,.slice none 0 0] 122):=⟨_,rfl⟩
 have hB0:Below w.heap.size w W0:=by rw[hW0];exact(((Below.refl _ _).alloc (Nat.le_refl _) _).alloc (by simp) _).alloc (by simp;omega) _
 have hs0:W0.heap.size=w.heap.size+3:=by rw[hW0];simp
 have hP:ja W0 w.heap.size 122 [.bool na,nv,dv]:=by rw[hW0];exact((ja.make w _ [.bool na,nv,dv]).alloc _).alloc _
 have hQ:ja W0 (w.heap.size+1) 122 [.bool nb,mv,ev]:=by
  rw[hW0];have:=ja.make (w.alloc (.cells #[.bool na,nv,dv] 122)) 122 [.bool nb,mv,ev];simp only[World.size_alloc] at this;exact this.alloc _
 have hRR:ja W0 (w.heap.size+1+1) 122 [.bool false,.slice none 0 0,.slice none 0 0]:=by
  rw[hW0];have:=ja.make ((w.alloc (.cells #[.bool na,nv,dv] 122)).alloc (.cells #[.bool nb,mv,ev] 122)) 122 [.bool false,.slice none 0 0,.slice none 0 0];simp only[World.size_alloc] at this;exact this
 have N1:=h1.below hB0;have N2:=h2.below hB0;have N3:=h3.below hB0;have N4:=h4.below hB0
 have KS:Hid (∀x,Below W0.heap.size W0 x→x.cell? ⟨w.heap.size,0,none⟩=some (.bool na)∧x.cell? ⟨w.heap.size,1,none⟩=some nv∧x.cell? ⟨w.heap.size+1,0,none⟩=some (.bool nb)∧x.cell? ⟨w.heap.size+1,1,none⟩=some mv∧x.cell? ⟨w.heap.size+1,2,none⟩=some ev∧Below W0.heap.size W0 x):=hid (fun x hb=>
  ⟨(hb.cell (p:=⟨w.heap.size,0,none⟩) hP.lt).trans (hP.cell 0),(hb.cell (p:=⟨w.heap.size,1,none⟩) hP.lt).trans (hP.cell 1),(hb.cell (p:=⟨w.heap.size+1,0,none⟩) hQ.lt).trans (hQ.cell 0),(hb.cell (p:=⟨w.heap.size+1,1,none⟩) hQ.lt).trans (hQ.cell 1),(hb.cell (p:=⟨w.heap.size+1,2,none⟩) hQ.lt).trans (hQ.cell 2),hb⟩)
 have KT:=hid (fun (x x':World) (hb:Below x.heap.size x x') (h5:Below W0.heap.size W0 x)=>KS.out x' (h5.trans (hb.mono h5.size)));have HS0:=hid hs0;have HRR:=hid hRR;have HB0:=hid hB0;obtain⟨p0,p1,p2,_,_,_⟩:=hP.three;obtain⟨q0,q1,q2,_,_,_⟩:=hQ.three;have hPl:=hP.lt;have hQl:=hQ.lt;have HP:=hid hP;have HQ:=hid hQ;clear hs0 h1 h2 h3 h4 hP hQ hRR hB0;go_enter Tryz.func108,Tryz.ntmps108
 go_upto_region 1 with fail
 rw[←hW0];clear hW0
 go_wp2_with fail
 refine(zZ dv ev d e _ N2 N4 fd fe).mono ?_;rintro e1 w1 ⟨gv,rfl,hgv,hB1⟩;rw[HGg.out] at hgv;have x2:=(hB1.cell (p:=⟨w.heap.size,2,none⟩) hPl).trans p2;have HB1:=hid hB1
 go_wp2_with fail
 refine(zX dv gv d g _ (N2.below hB1) hgv hgp fd).mono ?_;rintro e2 w2 ⟨rv,rfl,hrv,hB2⟩;have HW2:=hid (hB1.trans (hB2.mono hB1.size));have hgv2:=hgv.below hB2;clear hB1 hB2 hgv x2 p0 p1 p2 q0 q1 q2
 go_wp2_with fail
 go_region_held3 (fun x=>x.cell? ⟨w.heap.size,0,none⟩=some (.bool na)∧x.cell? ⟨w.heap.size,1,none⟩=some nv∧x.cell? ⟨w.heap.size+1,0,none⟩=some (.bool nb)∧x.cell? ⟨w.heap.size+1,1,none⟩=some mv∧x.cell? ⟨w.heap.size+1,2,none⟩=some ev∧Below W0.heap.size W0 x)
  (first | exact KS.out _ HW2.out.drew | exact KT.out _ _ (by assumption) (by assumption))
  (first
   | (go_at_call 176;go_split_ands;refine(zX ev gv e g _ (N4.below (by assumption)) (hgv2.below (Below.refl _ _).drew) hgp fe).mono ?_;rintro e3 w3 ⟨xv,rfl,hxv,hB3⟩)
   | (go_at_call_of 178 nv;go_split_ands;refine(Qp nv xv n (e/g) _ (N1.below (by assumption)) hxv fn fA).mono ?_;rintro e4 w4 ⟨yv,rfl,hyv,hB4⟩)
   | (go_at_call_of 178 mv;go_split_ands;refine(Qp mv rv m (d/g) _ (N3.below (by assumption)) (hrv.below ((((Below.refl _ w2).drew).trans hB3).trans (hB4.mono hB3.size))) fm fB).mono ?_;rintro e5 w5 ⟨zv,rfl,hzv,hB5⟩)
   | (go_at_call 177;go_split_ands;refine(SS.out yv zv _ (hyv.below hB5) hzv).mono ?_;rintro e6 w6 ⟨sv,rfl,hsv,hB6⟩))
 have hW6:Below W0.heap.size W0 w6:=by go_split_ands;assumption
 have h26:Below w2.heap.size w2 w6:=(((xn hB3).trans (hB4.mono hB3.size)).trans (hB5.mono (Nat.le_trans hB3.size hB4.size))).trans (hB6.mono (Nat.le_trans hB3.size (Nat.le_trans hB4.size hB5.size)));have hgv6:=hgv2.below h26;have hrv6:=hrv.below h26;have HW6:=hid (HB0.out.trans (hW6.mono HB0.out.size));have HR6:=hid (HRR.out.below hW6 HRR.out.lt);have HQ6:=hid (HQ.out.below hW6 hQl);have N4':=N4.below hW6;have fg:jl g:=fd.le (by rw[←HGg.out];exact Nat.gcd_le_left _ hdp);clear hgv2 hrv hxv hyv hzv hB3 hB4 hB5 hB6 h26 KS KT HRR HW2 SS N1 N2 N3 N4 HP HQ hW6 HB1
 obtain⟨cg,hcg⟩:∃c,Nat.gcd z g=c:=⟨_,rfl⟩
 have hcp:0<cg:=by rw[←hcg];exact Nat.gcd_pos_of_pos_right _ hgp
 have HCG:=hid hcg;rw[hcg] at PP;clear hcg
 go_wp2_with fail
 refine(zZ sv gv z g _ hsv hgv6 fr fg).mono ?_;rintro e7 w7 ⟨cv,rfl,hcv,hB7⟩;rw[HCG.out] at hcv;have HW7:=hid (HW6.out.trans (hB7.mono HW6.out.size));have hR7:Hid (ja w7.drew (w.heap.size+1+1) 122 [.bool false,.slice none 0 0,.slice none 0 0]):=hid (by have t:=HR6.out.below hB7 HR6.out.lt;exact t);have HQ7:=hid (HQ6.out.below hB7 HQ6.out.lt)
 have hs7:w.heap.size+2<w7.heap.size:=by have:=HR6.out.lt;have:=hB7.size;omega
 have hsv7:=hsv.below hB7;have hrv7:=hrv6.below hB7;have hev7:=N4'.below hB7;clear hB7 hsv hrv6 hgv6 HR6 HW6 HQ6 N4';have KS:Hid (w7.drew.cell? ⟨w.heap.size+1,2,none⟩=some ev∧w.heap.size+2<w7.drew.heap.size∧Below w.heap.size w w7.drew):=hid ⟨HQ7.out.cell 2,hs7,HW7.out.drew⟩;have KT:Hid (∀x x':World,Below x.heap.size x x'→x.cell? ⟨w.heap.size+1,2,none⟩=some ev→w.heap.size+2<x.heap.size→Below w.heap.size w x→x'.cell? ⟨w.heap.size+1,2,none⟩=some ev∧w.heap.size+2<x'.heap.size∧Below w.heap.size w x'):=hid (fun x x' hb h1 h2 h3=>⟨(hb.cell (p:=⟨w.heap.size+1,2,none⟩) (by simp;omega)).trans h1,Nat.lt_of_lt_of_le h2 hb.size,h3.trans (hb.mono h3.size)⟩)
 have KU:Hid (∀(x:World) (a b c:Value),x.cell? ⟨w.heap.size+1,2,none⟩=some ev→w.heap.size+2<x.heap.size→Below w.heap.size w x→(((x.setCell ⟨w.heap.size+1+1,0,none⟩ a).setCell ⟨w.heap.size+1+1,1,none⟩ b).setCell ⟨w.heap.size+1+1,2,none⟩ c).cell? ⟨w.heap.size+1,2,none⟩=some ev∧w.heap.size+2<(((x.setCell ⟨w.heap.size+1+1,0,none⟩ a).setCell ⟨w.heap.size+1+1,1,none⟩ b).setCell ⟨w.heap.size+1+1,2,none⟩ c).heap.size∧Below w.heap.size w (((x.setCell ⟨w.heap.size+1+1,0,none⟩ a).setCell ⟨w.heap.size+1+1,1,none⟩ b).setCell ⟨w.heap.size+1+1,2,none⟩ c)):=hid (fun x a b c h1 h2 h3=>by
  refine⟨?_,by simpa using h2,((h3.setCell (by simp;omega) _).setCell (by simp;omega) _).setCell (by simp;omega) _⟩;rw[World.cell?_setCell_other _ _ _ _ (by intro e;injection e with e1;omega),World.cell?_setCell_other _ _ _ _ (by intro e;injection e with e1;omega),World.cell?_setCell_other _ _ _ _ (by intro e;injection e with e1;omega)]
  exact h1)
 have fec:jl (e/cg):=fe.le (Nat.div_le_self _ _)
 go_wp2_with fail
 go_region_held3 (fun x=>x.cell? ⟨w.heap.size+1,2,none⟩=some ev∧w.heap.size+2<x.heap.size∧Below w.heap.size w x)
  (first | exact KS.out | exact KT.out _ _ (by assumption) (by assumption) (by assumption) (by assumption) | (go_split_ands;exact KU.out _ _ _ _ (by assumption) (by assumption) (by assumption)))
  (first
   | (go_at_call_of 176 sv;go_split_ands;refine(zX sv cv z cg _ (hsv7.below (Below.refl _ _).drew) (hcv.below (Below.refl _ _).drew) hcp fr).mono ?_;rintro e8 w8 ⟨xv,rfl,hxv,hB8⟩;have hR8:=qj hB8 hR7)
   | (go_at_call_of 176 ev;go_split_ands;refine(zX ev cv e cg _ (hev7.below (xn hB8)) (hcv.below (xn hB8)) hcp fe).mono ?_;rintro e9 w9 ⟨yv,rfl,hyv,hB9⟩;have hR9:=qj hB9 hR8)
   | (go_at_call 178;go_split_ands;refine(Qp rv yv (d/g) (e/cg) _ (hrv7.below ((xn hB8).trans (hB9.mono hB8.size))) hyv fB fec).mono ?_;rintro e10 w10 ⟨tv,rfl,htv,hB10⟩;have hR10:=qj hB10 hR9;obtain⟨r0,r1,r2,k0,k1,k2⟩:=hR10.out.three;obtain⟨A1,n1,c1,rfl,_⟩:=hxv.size_;obtain⟨A2,n2,c2,rfl,_⟩:=htv.size_))
 have hWf:Below w.heap.size w (((w10.setCell ⟨w.heap.size+1+1,0,none⟩ (.bool s)).setCell ⟨w.heap.size+1+1,1,none⟩ (.slice A1 n1 c1)).setCell ⟨w.heap.size+1+1,2,none⟩ (.slice A2 n2 c2)):=by go_split_ands;assumption
 have hx10:=hxv.below (hB9.trans (hB10.mono hB9.size));have Hn:=hid (hx10.put3 (c':= .slice A2 n2 c2) hR10.out (js _) (jq _ _ _) (jq _ _ _) (js s) hx10.noInt);have Hd:=hid (htv.put3 (c':= .slice A2 n2 c2) hR10.out (js _) (jq _ _ _) (jq _ _ _) (js s) hx10.noInt);have HWf:=hid hWf
 have HRt:Hid (qC (p+q) w (.returned (.agg #[.bool s,.slice A1 n1 c1,.slice A2 n2 c2])) (((w10.setCell ⟨w.heap.size+1+1,0,none⟩ (.bool s)).setCell ⟨w.heap.size+1+1,1,none⟩ (.slice A1 n1 c1)).setCell ⟨w.heap.size+1+1,2,none⟩ (.slice A2 n2 c2))):=hid (by
  refine⟨_,rfl,⟨_,_,by rw[PP.out.1],?_,?_⟩,HWf.out⟩
  ·rw[PP.out.2.1];exact Hn.out
  ·rw[PP.out.2.2];exact Hd.out)
 clear hx10 hxv htv hyv hWf Hn Hd HWf hB8 hB9 hB10 hR8 hR9 hR7 HW7 hcv hsv7 hrv7 hev7 KS KT KU PP
 go_wp2
 exact bodyPost_ret (v:= .agg #[.bool s,.slice A1 n1 c1,.slice A2 n2 c2]) (by simp[results,Tryz.results108,go_sem,r0,r1,r2]) rfl HRt.out
theorem SH (a b:Int) (hb:b≠0):((a:Rat)/(b:Rat)).num.natAbs≤a.natAbs∧((a:Rat)/(b:Rat)).den≤b.natAbs:=by
 have h:Rat.divInt a b=(a:Rat)/(b:Rat):=Rat.divInt_eq_div a b;obtain⟨m,hm,h1,h2⟩:=Rat.divInt_num_den hb (n':=((a:Rat)/(b:Rat)).num) (d':=((a:Rat)/(b:Rat)).den) (z':=((a:Rat)/(b:Rat)).den_nz) (c:=((a:Rat)/(b:Rat)).reduced) h
 have hm1:1≤m.natAbs:=by omega
 constructor
 ·have:a.natAbs=((a:Rat)/(b:Rat)).num.natAbs*m.natAbs:=by
   conv=>lhs;rw[h1]
   rw[Int.natAbs_mul]
  rw[this];exact Nat.le_mul_of_pos_right _ hm1
 ·have:b.natAbs=((a:Rat)/(b:Rat)).den*m.natAbs:=by
   conv=>lhs;rw[h2]
   rw[Int.natAbs_mul];rfl
  rw[this];exact Nat.le_mul_of_pos_right _ hm1
theorem Mc (q:Rat):∃s c,xL q = .returned (.tuple #[.string s,.int .i64 c]):=by
 unfold xL;split
 ·exact⟨_,_,rfl⟩
 ·exact⟨_,_,rfl⟩
def Wi (a b:Int) (w:World) (e:Ending) (w':World):Prop:=
 (if b=0 then e = .returned (.tuple #[.string ⟨#[]⟩,.int .i64 6]) else e=xL ((a:Rat)/(b:Rat)))∧Below w.heap.size w w'
theorem MT (a b:Int) (w:World) (ha: -9223372036854775808≤a∧a≤9223372036854775807) (hb: -9223372036854775808≤b∧b≤9223372036854775807) (hG:jH w):
  Calls Tryz.prog 34 #[.int .i64 a,.int .i64 b] w (Wi a b w):=by
 by_cases h0:b=0
 ·subst h0
  go_enter Tryz.func34,Tryz.ntmps34
  go_wp2
  go_ret2;exact⟨by rw[if_pos rfl];rfl,Below.refl _ _⟩
 ·have hb0:(b==0)=false:=by simpa using h0
  have hq:(b:Rat)≠0:=by simpa using h0
  obtain⟨p1,p2⟩:=SH a b h0;have f1:jl ((a:Rat)).num.natAbs:=jl.small (by show a.natAbs<WB;unfold WB;omega);have f2:jl ((a:Rat)).den:=jl.small (by show 1<WB;decide);have f3:jl ((b:Rat)).num.natAbs:=jl.small (by show b.natAbs<WB;unfold WB;omega);have f4:jl ((b:Rat)).den:=jl.small (by show 1<WB;decide);have f5:jl ((a:Rat)/(b:Rat)).num.natAbs:=jl.small (by unfold WB;omega);have f6:jl ((a:Rat)/(b:Rat)).den:=jl.small (by unfold WB;omega);have H0:=hid h0;clear h0 p1 p2;go_enter Tryz.func34,Tryz.ntmps34
  go_wp2_with fail
  refine(Kj a _ ha.1 ha.2).mono ?_;rintro e w1 ⟨v1,rfl,hv1,hB1⟩
  go_wp2_with fail
  refine(Kj b _ hb.1 hb.2).mono ?_;rintro e w2 ⟨v2,rfl,hv2,hB2⟩
  go_wp2_with fail
  refine(Wk v1 v2 _ _ _ (hv1.below hB2) hv2 hq f1 f2 f3 f4).mono ?_;rintro e w3 ⟨v3,rfl,hv3,hB3⟩
  go_wp2_with fail
  refine(XZ v3 _ _ hv3 f5 f6 (((hG.below hB1).below hB2).below hB3)).mono ?_;rintro e w4 ⟨he,hB4⟩;have hBt:=hB1.trans ((hB2.trans ((hB3.trans (hB4.mono hB3.size)).mono hB2.size)).mono hB1.size)
  have Hif:Hid (∀e,e=xL ((a:Rat)/(b:Rat))→Wi a b w e w4):=fun e he=>⟨by rw[if_neg H0.out];exact he,hBt⟩
  obtain⟨s,c,hs⟩:=Mc ((a:Rat)/(b:Rat));rw[hs] at he Hif;subst he;clear hs
  go_wp2
  go_ret2;exact Hif.out _ rfl
theorem Cg (v:Value) (q:Rat) (w:World) (h:Rt w v q):Calls Tryz.prog 314 #[.agg #[],v] w fun e w'=>e = .returned (.bool (j5 q==0))∧Below w.heap.size w w':=by
 obtain⟨sg0,hs0⟩:∃s,j5 q=s:=⟨_,rfl⟩
 have SG:=hid (fun wx (h:Rt wx v q)=>hs0 ▸ Gw v q wx h);have Hs:=hid hs0;clear hs0;have HH:=hid h;obtain⟨nv,dv,hv,-,-⟩:=h;generalize decide (q.num<0)=neg at *;have H1:=hid (HH.out.below (((Below.refl _ w).alloc (Nat.le_refl _) (.cells #[] 172))));have H2:=hid (H1.out.below (((Below.refl _ _).alloc (Nat.le_refl _) (.cells #[.bool neg,nv,dv] 122))));subst hv;go_enter Tryz.func314,Tryz.ntmps314
 go_wp2_with fail
 refine(SG.out _ H2.out).mono ?_;rintro e w2 ⟨rfl,hB2⟩;have hBt:=(((Below.refl _ w).alloc (Nat.le_refl _) (.cells #[] 172)).alloc (by simp) (.cells #[.bool neg,nv,dv] 122)).trans (hB2.mono (by simp;omega));clear hB2
 go_wp2
 go_ret;exact⟨by rw[Hs.out];rfl,hBt⟩
theorem Zz (n:Int) (w:World) (h1: -9223372036854775808≤n) (h2:n≤9223372036854775807):Calls Tryz.prog 316 #[.agg #[],.int .i64 n] w (qC (n:Rat) w):=by
 obtain⟨W0,hW0⟩:∃W0,W0=(w.alloc (.cells #[] 172)).alloc (.cells #[.bool false,.slice none 0 0,.slice none 0 0] 122):=⟨_,rfl⟩
 have hB0:Below w.heap.size w W0:=by rw[hW0];exact((Below.refl _ _).alloc (Nat.le_refl _) _).alloc (by simp) _
 have hR:ja W0 (w.heap.size+1) 122 [.bool false,.slice none 0 0,.slice none 0 0]:=by
  rw[hW0];have:=ja.make (w.alloc (.cells #[] 172)) 122 [.bool false,.slice none 0 0,.slice none 0 0];simp only[World.size_alloc] at this;exact this
 have RO:=hid (fun W=>Kj n W h1 h2);clear h1 h2;go_enter Tryz.func316,Tryz.ntmps316
 go_upto_region 1 with fail
 rw[←hW0];clear hW0
 go_wp2_with fail
 refine(RO.out _).mono ?_;rintro e w2 ⟨v,rfl,hv,hB2⟩;obtain⟨nv,dv,rfl,hn,hd⟩:=hv;have hR2:=hR.below hB2 hR.lt;have hBt:=hB0.trans (hB2.mono hB0.size);have Hn:=hid (hn.put3 (c':=dv) hR2 (js _) (jq _ _ _) (jq _ _ _) (js (decide ((n:Rat).num<0))) hn.noInt);have Hd:=hid (hd.put3 (c':=dv) hR2 (js _) (jq _ _ _) (jq _ _ _) (js (decide ((n:Rat).num<0))) hn.noInt);obtain⟨e0,e1,e2,k0,k1,k2⟩:=hR2.three;obtain⟨A1,k1',c1,rfl,_⟩:=hn.size_;obtain⟨A2,k2',c2,rfl,_⟩:=hd.size_;clear hn hd hR hR2 hB2
 have KR:∃ng,Hid (ng=decide ((n:Rat).num<0)):=⟨_,hid rfl⟩
 obtain⟨ng,hng⟩:=KR;rw[←hng.out] at Hn Hd;rw[←hng.out]
 go_wp2
 exact bodyPost_ret (v:= .agg #[.bool ng,.slice A1 k1' c1,.slice A2 k2' c2]) (by simp[results,Tryz.results316,go_sem,e0,e1,e2]) rfl ⟨_,rfl,⟨_,_,by rw[hng.out],Hn.out,Hd.out⟩,((hBt.setCell (by simp) _).setCell (by simp) _).setCell (by simp) _⟩
theorem Gl (v u:Value) (p q:Rat) (w:World) (h:Rt w v p) (h':Rt w u q) (f1:jl p.num.natAbs) (f2:jl p.den) (f3:jl q.num.natAbs) (f4:jl q.den):
  Calls Tryz.prog 318 #[.agg #[],v,u] w (qC (p*q) w):=by
 have RO:=hid (fun W (h:Rt W v p) (h':Rt W u q)=>WP v u p q W h h' f1 f2 f3 f4);clear f1 f2 f3 f4;have HH:=hid h;have HH':=hid h';obtain⟨av,bv,hv,-,-⟩:=h;obtain⟨cv,dv,hu,-,-⟩:=h';generalize decide (p.num<0)=na at hv;generalize decide (q.num<0)=nb at hu
 obtain⟨W0,hW0⟩:∃W0,W0=(((w.alloc (.cells #[] 172)).alloc (.cells #[.bool na,av,bv] 122)).alloc (.cells #[.bool nb,cv,dv] 122)).alloc (.cells #[.bool false,.slice none 0 0,.slice none 0 0] 122):=⟨_,rfl⟩
 have hB0:Below w.heap.size w W0:=by rw[hW0];exact((((Below.refl _ _).alloc (Nat.le_refl _) _).alloc (by simp) _).alloc (by simp;omega) _).alloc (by simp;omega) _
 have hP:ja W0 (w.heap.size+1) 122 [.bool na,av,bv]:=by
  rw[hW0];have:=ja.make (w.alloc (.cells #[] 172)) 122 [.bool na,av,bv];simp only[World.size_alloc] at this;exact(this.alloc _).alloc _
 have hQ:ja W0 (w.heap.size+1+1) 122 [.bool nb,cv,dv]:=by
  rw[hW0];have:=ja.make ((w.alloc (.cells #[] 172)).alloc (.cells #[.bool na,av,bv] 122)) 122 [.bool nb,cv,dv];simp only[World.size_alloc] at this;exact this.alloc _
 have hR:ja W0 (w.heap.size+1+1+1) 122 [.bool false,.slice none 0 0,.slice none 0 0]:=by
  rw[hW0];have:=ja.make (((w.alloc (.cells #[] 172)).alloc (.cells #[.bool na,av,bv] 122)).alloc (.cells #[.bool nb,cv,dv] 122)) 122 [.bool false,.slice none 0 0,.slice none 0 0];simp only[World.size_alloc] at this;exact this
 have HR:=hid hR;obtain⟨c0,c1,c2,_,_,_⟩:=hP.three;obtain⟨d0,d1,d2,_,_,_⟩:=hQ.three;have RX:=hid (RO.out W0 (HH.out.below hB0) (HH'.out.below hB0));clear hP hQ hR RO HH HH';subst hv hu;go_enter Tryz.func318,Tryz.ntmps318
 go_upto_region 1 with fail
 rw[←hW0];clear hW0
 go_wp2_with fail
 refine RX.out.mono ?_;rintro e w2 ⟨v,rfl,hv,hB2⟩;clear c0 c1 c2 d0 d1 d2;obtain⟨nv,ev,rfl,hn,hd⟩:=hv;have hR2:=HR.out.below hB2 HR.out.lt;have hBt:=hB0.trans (hB2.mono hB0.size);have Hn:=hid (hn.put3 (c':=ev) hR2 (js _) (jq _ _ _) (jq _ _ _) (js (decide ((p*q).num<0))) hn.noInt);have Hd:=hid (hd.put3 (c':=ev) hR2 (js _) (jq _ _ _) (jq _ _ _) (js (decide ((p*q).num<0))) hn.noInt);obtain⟨e0,e1,e2,k0,k1,k2⟩:=hR2.three;obtain⟨A1,k1',c1,rfl,_⟩:=hn.size_;obtain⟨A2,k2',c2,rfl,_⟩:=hd.size_;clear hn hd hR2 hB2 RX HR
 have KR:∃ng,Hid (ng=decide ((p*q).num<0)):=⟨_,hid rfl⟩
 obtain⟨ng,hng⟩:=KR;rw[←hng.out] at Hn Hd;rw[←hng.out]
 go_wp2
 exact bodyPost_ret (v:= .agg #[.bool ng,.slice A1 k1' c1,.slice A2 k2' c2]) (by simp[results,Tryz.results318,go_sem,e0,e1,e2]) rfl ⟨_,rfl,⟨_,_,by rw[hng.out],Hn.out,Hd.out⟩,((hBt.setCell (by simp;omega) _).setCell (by simp;omega) _).setCell (by simp;omega) _⟩
theorem Ch (v u:Value) (p q:Rat) (w:World) (h:Rt w v p) (h':Rt w u q) (hq0:q≠0) (f1:jl p.num.natAbs) (f2:jl p.den) (f3:jl q.num.natAbs) (f4:jl q.den):
  Calls Tryz.prog 317 #[.agg #[],v,u] w (qC (p/q) w):=by
 have RO:=hid (fun W (h:Rt W v p) (h':Rt W u q)=>Wk v u p q W h h' hq0 f1 f2 f3 f4);clear f1 f2 f3 f4 hq0;have HH:=hid h;have HH':=hid h';obtain⟨av,bv,hv,-,-⟩:=h;obtain⟨cv,dv,hu,-,-⟩:=h';generalize decide (p.num<0)=na at hv;generalize decide (q.num<0)=nb at hu
 obtain⟨W0,hW0⟩:∃W0,W0=(((w.alloc (.cells #[] 172)).alloc (.cells #[.bool na,av,bv] 122)).alloc (.cells #[.bool nb,cv,dv] 122)).alloc (.cells #[.bool false,.slice none 0 0,.slice none 0 0] 122):=⟨_,rfl⟩
 have hB0:Below w.heap.size w W0:=by rw[hW0];exact((((Below.refl _ _).alloc (Nat.le_refl _) _).alloc (by simp) _).alloc (by simp;omega) _).alloc (by simp;omega) _
 have hP:ja W0 (w.heap.size+1) 122 [.bool na,av,bv]:=by
  rw[hW0];have:=ja.make (w.alloc (.cells #[] 172)) 122 [.bool na,av,bv];simp only[World.size_alloc] at this;exact(this.alloc _).alloc _
 have hQ:ja W0 (w.heap.size+1+1) 122 [.bool nb,cv,dv]:=by
  rw[hW0];have:=ja.make ((w.alloc (.cells #[] 172)).alloc (.cells #[.bool na,av,bv] 122)) 122 [.bool nb,cv,dv];simp only[World.size_alloc] at this;exact this.alloc _
 have hR:ja W0 (w.heap.size+1+1+1) 122 [.bool false,.slice none 0 0,.slice none 0 0]:=by
  rw[hW0];have:=ja.make (((w.alloc (.cells #[] 172)).alloc (.cells #[.bool na,av,bv] 122)).alloc (.cells #[.bool nb,cv,dv] 122)) 122 [.bool false,.slice none 0 0,.slice none 0 0];simp only[World.size_alloc] at this;exact this
 have HR:=hid hR;obtain⟨c0,c1,c2,_,_,_⟩:=hP.three;obtain⟨d0,d1,d2,_,_,_⟩:=hQ.three;have RX:=hid (RO.out W0 (HH.out.below hB0) (HH'.out.below hB0));clear hP hQ hR RO HH HH';subst hv hu;go_enter Tryz.func317,Tryz.ntmps317
 go_upto_region 1 with fail
 rw[←hW0];clear hW0
 go_wp2_with fail
 refine RX.out.mono ?_;rintro e w2 ⟨v,rfl,hv,hB2⟩;clear c0 c1 c2 d0 d1 d2;obtain⟨nv,ev,rfl,hn,hd⟩:=hv;have hR2:=HR.out.below hB2 HR.out.lt;have hBt:=hB0.trans (hB2.mono hB0.size);have Hn:=hid (hn.put3 (c':=ev) hR2 (js _) (jq _ _ _) (jq _ _ _) (js (decide ((p/q).num<0))) hn.noInt);have Hd:=hid (hd.put3 (c':=ev) hR2 (js _) (jq _ _ _) (jq _ _ _) (js (decide ((p/q).num<0))) hn.noInt);obtain⟨e0,e1,e2,k0,k1,k2⟩:=hR2.three;obtain⟨A1,k1',c1,rfl,_⟩:=hn.size_;obtain⟨A2,k2',c2,rfl,_⟩:=hd.size_;clear hn hd hR2 hB2 RX HR
 have KR:∃ng,Hid (ng=decide ((p/q).num<0)):=⟨_,hid rfl⟩
 obtain⟨ng,hng⟩:=KR;rw[←hng.out] at Hn Hd;rw[←hng.out]
 go_wp2
 exact bodyPost_ret (v:= .agg #[.bool ng,.slice A1 k1' c1,.slice A2 k2' c2]) (by simp[results,Tryz.results317,go_sem,e0,e1,e2]) rfl ⟨_,rfl,⟨_,_,by rw[hng.out],Hn.out,Hd.out⟩,((hBt.setCell (by simp;omega) _).setCell (by simp;omega) _).setCell (by simp;omega) _⟩
theorem xM.neg {p q:Rat} (h:xM p q):xM p (-q):=by
 obtain⟨h1,h2,h3⟩:=h;refine⟨h1,⟨by rw[Rat.neg_num,Int.natAbs_neg];exact h2.1,by rw[Rat.neg_den];exact h2.2⟩,by rw[Rat.neg_num,Int.natAbs_neg,Rat.neg_den];exact h3⟩
theorem Bb {w x:World} {q:Rat} {g:Nat} {s:Bool} {a b:Value} (hv:Rt x (.agg #[.bool s,a,b]) q) (hR:ja x g 122 [.bool false,.slice none 0 0,.slice none 0 0]) (hB:Below w.heap.size w x) (hg:w.heap.size≤g):
  qC q w (.returned (.agg #[.bool s,a,b])) (((x.setCell ⟨g,0,none⟩ (.bool s)).setCell ⟨g,1,none⟩ a).setCell ⟨g,2,none⟩ b):=by
 obtain⟨nv,dv,he,h1,h2⟩:=hv
 have e:s=decide (q.num<0)∧a=nv∧b=dv:=by simpa using he
 obtain⟨rfl,rfl,rfl⟩:=e;exact⟨_,rfl,⟨_,_,rfl,h1.put3 hR (js _) (jq _ _ _) (jq _ _ _) (js _) h1.noInt,h2.put3 hR (js _) (jq _ _ _) (jq _ _ _) (js _) h1.noInt⟩,((hB.setCell (by simpa using hg) _).setCell (by simpa using hg) _).setCell (by simpa using hg) _⟩
theorem Rt.shape {w:World} {v:Value} {q:Rat} (h:Rt w v q):∃s A1 n1 c1 A2 n2 c2,v = .agg #[.bool s,.slice A1 n1 c1,.slice A2 n2 c2]:=by
 obtain⟨nv,dv,rfl,h1,h2⟩:=h;obtain⟨A1,n1,c1,rfl,_⟩:=h1.size_;obtain⟨A2,n2,c2,rfl,_⟩:=h2.size_;exact⟨_,_,_,_,_,_,_,rfl⟩
theorem WL (v u:Value) (p q:Rat) (w:World) (h:Rt w v p) (h':Rt w u q) (hf:xM p q):
  Calls Tryz.prog 109 #[v,u] w (qC (p-q) w):=by
 have PL:=hid (fun (u:Value) W (h:Rt W v p) (h':Rt W u (-q))=>WM v u p (-q) W h h' hf.neg);have HE:Hid (p-q=p + -q):=hid (Rat.sub_eq_add_neg p q);obtain⟨s1,A1,n1,c1,A2,n2,c2,hv⟩:=h.shape;obtain⟨s2,A3,n3,c3,A4,n4,c4,hu⟩:=h'.shape;obtain⟨W0,hW0,hP,hQ,hR,hB0,hs0⟩:=Uy w (.bool s1) (.slice A1 n1 c1) (.slice A2 n2 c2) (.bool s2) (.slice A3 n3 c3) (.slice A4 n4 c4);have Hv:=hid (h.below hB0);have Hu:=hid (h'.below hB0);subst hv hu;obtain⟨p0,p1,p2,_,_,_⟩:=hP.three;obtain⟨q0,q1,q2,_,_,_⟩:=hQ.three;have HP:=hid hP;have HQ:=hid hQ;have HR:=hid hR;have HB0:=hid hB0;have hs:=hs0;have HRd:Hid (ja W0.drew (w.heap.size+1+1) 122 [.bool false,.slice none 0 0,.slice none 0 0]):=hid (by have t:=hR;exact t);clear h h' hf hP hQ hR hB0 hs0
 have KW:Hid (∀x:World,ja x w.heap.size 122 [.bool s1,.slice A1 n1 c1,.slice A2 n2 c2]→ja x (w.heap.size+1) 122 [.bool s2,.slice A3 n3 c3,.slice A4 n4 c4]→x.cell? ⟨w.heap.size,0,none⟩=some (.bool s1)∧x.cell? ⟨w.heap.size,1,none⟩=some (.slice A1 n1 c1)∧x.cell? ⟨w.heap.size,2,none⟩=some (.slice A2 n2 c2)∧x.cell? ⟨w.heap.size+1,0,none⟩=some (.bool s2)∧x.cell? ⟨w.heap.size+1,1,none⟩=some (.slice A3 n3 c3)∧x.cell? ⟨w.heap.size+1,2,none⟩=some (.slice A4 n4 c4)):=hid (fun x h1 h2=>
  ⟨h1.cell 0,h1.cell 1,h1.cell 2,h2.cell 0,h2.cell 1,h2.cell 2⟩)
 have hK0:Hid (ja W0.drew w.heap.size 122 [.bool s1,.slice A1 n1 c1,.slice A2 n2 c2]∧ja W0.drew (w.heap.size+1) 122 [.bool s2,.slice A3 n3 c3,.slice A4 n4 c4]):=hid ⟨HP.out,HQ.out⟩;have KT:Hid (∀x x':World,Below x.heap.size x x'→Hid (ja x w.heap.size 122 [.bool s1,.slice A1 n1 c1,.slice A2 n2 c2]∧ja x (w.heap.size+1) 122 [.bool s2,.slice A3 n3 c3,.slice A4 n4 c4])→Hid (ja x' w.heap.size 122 [.bool s1,.slice A1 n1 c1,.slice A2 n2 c2]∧ja x' (w.heap.size+1) 122 [.bool s2,.slice A3 n3 c3,.slice A4 n4 c4])):=hid (fun x x' hb h=>hid ⟨h.out.1.below hb h.out.1.lt,h.out.2.below hb h.out.2.lt⟩)
 have KU:Hid (∀(x:World) (a b c:Value),Hid (ja x w.heap.size 122 [.bool s1,.slice A1 n1 c1,.slice A2 n2 c2]∧ja x (w.heap.size+1) 122 [.bool s2,.slice A3 n3 c3,.slice A4 n4 c4])→Hid (ja (((x.setCell ⟨w.heap.size+1+1,0,none⟩ a).setCell ⟨w.heap.size+1+1,1,none⟩ b).setCell ⟨w.heap.size+1+1,2,none⟩ c) w.heap.size 122 [.bool s1,.slice A1 n1 c1,.slice A2 n2 c2]∧ja (((x.setCell ⟨w.heap.size+1+1,0,none⟩ a).setCell ⟨w.heap.size+1+1,1,none⟩ b).setCell ⟨w.heap.size+1+1,2,none⟩ c) (w.heap.size+1) 122 [.bool s2,.slice A3 n3 c3,.slice A4 n4 c4])):=hid (fun x a b c h=>hid
  ⟨((h.out.1.other (p:=⟨w.heap.size+1+1,0,none⟩) (by simp;omega) _).other (p:=⟨w.heap.size+1+1,1,none⟩) (by simp;omega) _).other (p:=⟨w.heap.size+1+1,2,none⟩) (by simp;omega) _,((h.out.2.other (p:=⟨w.heap.size+1+1,0,none⟩) (by simp) _).other (p:=⟨w.heap.size+1+1,1,none⟩) (by simp) _).other (p:=⟨w.heap.size+1+1,2,none⟩) (by simp) _⟩)
 go_enter Tryz.func109,Tryz.ntmps109
 go_upto_region 1 with fail
 rw[←hW0];clear hW0
 go_region_held3 (fun x=>x.cell? ⟨w.heap.size,0,none⟩=some (.bool s1)∧x.cell? ⟨w.heap.size,1,none⟩=some (.slice A1 n1 c1)∧x.cell? ⟨w.heap.size,2,none⟩=some (.slice A2 n2 c2)∧x.cell? ⟨w.heap.size+1,0,none⟩=some (.bool s2)∧x.cell? ⟨w.heap.size+1,1,none⟩=some (.slice A3 n3 c3)∧x.cell? ⟨w.heap.size+1,2,none⟩=some (.slice A4 n4 c4))
  (first | exact KW.out _ hK0.out.1 hK0.out.2 | exact KW.out _ hK1.out.1 hK1.out.2 | exact KW.out _ hK2.out.1 hK2.out.2 | exact KW.out _ (KU.out _ _ _ _ hK2).out.1 (KU.out _ _ _ _ hK2).out.2)
  (first
   | (go_at_call 179;refine(Da _ q _ (Hu.out.below (Below.refl _ _).drew)).mono ?_;rintro e1 w1 ⟨nv,rfl,hnv,hB1⟩;have hK1:=KT.out _ _ hB1 hK0;have hR1:=qj hB1 HRd)
   | (go_at_call 108;refine(PL.out nv _ (Hv.out.below (xn hB1)) hnv).mono ?_;rintro e2 w2 ⟨rv,rfl,hrv,hB2⟩;have hK2:=KT.out _ _ hB2 hK1;have hR2:=qj hB2 hR1;obtain⟨s5,A5,n5,c5,A6,n6,c6,rfl⟩:=hrv.shape;obtain⟨r0,r1,r2,k0,k1,k2⟩:=hR2.out.three))
 have hB2':=((HB0.out.trans ((xn hB1).mono HB0.out.size)).trans (hB2.mono (Nat.le_trans HB0.out.size hB1.size)))
 have HEnd:=hid (Bb hrv hR2.out hB2' (show w.heap.size≤w.heap.size+1+1 by omega));clear hB2' hB1 hB2 hrv hR1 hR2 hK1 hK2 KW KT KU PL Hu Hv;rw[←HE.out] at HEnd
 go_wp2
 exact bodyPost_ret (v:= .agg #[.bool s5,.slice A5 n5 c5,.slice A6 n6 c6]) (by simp[results,Tryz.results109,go_sem,r0,r1,r2]) rfl HEnd.out
theorem Gk (v u:Value) (p q:Rat) (w:World) (h:Rt w v p) (h':Rt w u q) (hf:xM p q):
  Calls Tryz.prog 315 #[.agg #[],v,u] w (qC (p-q) w):=by
 have RO:=hid (fun W (h:Rt W v p) (h':Rt W u q)=>WL v u p q W h h' hf);clear hf;have HH:=hid h;have HH':=hid h';obtain⟨av,bv,hv,-,-⟩:=h;obtain⟨cv,dv,hu,-,-⟩:=h';generalize decide (p.num<0)=na at hv;generalize decide (q.num<0)=nb at hu
 obtain⟨W0,hW0⟩:∃W0,W0=(((w.alloc (.cells #[] 172)).alloc (.cells #[.bool na,av,bv] 122)).alloc (.cells #[.bool nb,cv,dv] 122)).alloc (.cells #[.bool false,.slice none 0 0,.slice none 0 0] 122):=⟨_,rfl⟩
 have hB0:Below w.heap.size w W0:=by rw[hW0];exact((((Below.refl _ _).alloc (Nat.le_refl _) _).alloc (by simp) _).alloc (by simp;omega) _).alloc (by simp;omega) _
 have hP:ja W0 (w.heap.size+1) 122 [.bool na,av,bv]:=by
  rw[hW0];have:=ja.make (w.alloc (.cells #[] 172)) 122 [.bool na,av,bv];simp only[World.size_alloc] at this;exact(this.alloc _).alloc _
 have hQ:ja W0 (w.heap.size+1+1) 122 [.bool nb,cv,dv]:=by
  rw[hW0];have:=ja.make ((w.alloc (.cells #[] 172)).alloc (.cells #[.bool na,av,bv] 122)) 122 [.bool nb,cv,dv];simp only[World.size_alloc] at this;exact this.alloc _
 have hR:ja W0 (w.heap.size+1+1+1) 122 [.bool false,.slice none 0 0,.slice none 0 0]:=by
  rw[hW0];have:=ja.make (((w.alloc (.cells #[] 172)).alloc (.cells #[.bool na,av,bv] 122)).alloc (.cells #[.bool nb,cv,dv] 122)) 122 [.bool false,.slice none 0 0,.slice none 0 0];simp only[World.size_alloc] at this;exact this
 have HR:=hid hR;obtain⟨c0,c1,c2,_,_,_⟩:=hP.three;obtain⟨d0,d1,d2,_,_,_⟩:=hQ.three;have RX:=hid (RO.out W0 (HH.out.below hB0) (HH'.out.below hB0));clear hP hQ hR RO HH HH';subst hv hu;go_enter Tryz.func315,Tryz.ntmps315
 go_upto_region 1 with fail
 rw[←hW0];clear hW0
 go_wp2_with fail
 refine RX.out.mono ?_;rintro e w2 ⟨v,rfl,hv,hB2⟩;clear c0 c1 c2 d0 d1 d2;obtain⟨nv,ev,rfl,hn,hd⟩:=hv;have hR2:=HR.out.below hB2 HR.out.lt;have hBt:=hB0.trans (hB2.mono hB0.size);have Hn:=hid (hn.put3 (c':=ev) hR2 (js _) (jq _ _ _) (jq _ _ _) (js (decide ((p-q).num<0))) hn.noInt);have Hd:=hid (hd.put3 (c':=ev) hR2 (js _) (jq _ _ _) (jq _ _ _) (js (decide ((p-q).num<0))) hn.noInt);obtain⟨e0,e1,e2,k0,k1,k2⟩:=hR2.three;obtain⟨A1,k1',c1,rfl,_⟩:=hn.size_;obtain⟨A2,k2',c2,rfl,_⟩:=hd.size_;clear hn hd hR2 hB2 RX HR
 have KR:∃ng,Hid (ng=decide ((p-q).num<0)):=⟨_,hid rfl⟩
 obtain⟨ng,hng⟩:=KR;rw[←hng.out] at Hn Hd;rw[←hng.out]
 go_wp2
 exact bodyPost_ret (v:= .agg #[.bool ng,.slice A1 k1' c1,.slice A2 k2' c2]) (by simp[results,Tryz.results315,go_sem,e0,e1,e2]) rfl ⟨_,rfl,⟨_,_,by rw[hng.out],Hn.out,Hd.out⟩,((hBt.setCell (by simp;omega) _).setCell (by simp;omega) _).setCell (by simp;omega) _⟩
abbrev El:=Bool×Value×Value
def kX (e:El):Value:= .agg #[.bool e.1,e.2.1,e.2.2]
def Jt (e:El):List Value:=[.bool e.1,e.2.1,e.2.2]
def jz:List El→List Value
 | []=>[]
 | e::t=> .bool e.1::e.2.1::e.2.2::jz t
theorem qB (es:List El):(jz es).length=es.length*3:=by
 induction es with
 | nil=>rfl
 | cons e t ih=>simp only[jz,List.length_cons,ih];omega
theorem Q0 (es:List El) (j:Nat) (e:El) (h:es[j]? =some e):(jz es)[j*3]? =some (.bool e.1)∧(jz es)[j*3+1]? =some e.2.1∧(jz es)[j*3+2]? =some e.2.2:=by
 induction es generalizing j with
 | nil=>cases h
 | cons a t ih=>
  cases j with
  | zero=>simp at h;subst h;simp[jz]
  | succ j=>
   simp at h;have:=ih j h;rw[show (j+1)*3=j*3+1+1+1 by omega];simpa [jz] using this
theorem U4 (es:List El) (j:Nat) (e:El) (h:j<es.length):(((jz es).set (j*3) (.bool e.1)).set (j*3+1) e.2.1).set (j*3+2) e.2.2=jz (es.set j e):=by
 induction es generalizing j with
 | nil=>simp at h
 | cons a t ih=>
  cases j with
  | zero=>simp[jz]
  | succ j=>
   simp at h;rw[show (j+1)*3=j*3+1+1+1 by omega];simp only[jz,List.set_cons_succ];rw[ih j h]
theorem S1 (es:List El) (h:∀e∈es,kf e.2.1∧kf e.2.2):∀c∈jz es,kf c:=by
 induction es with
 | nil=>intro c hc;cases hc
 | cons a t ih=>
  intro c hc;simp only[jz,List.mem_cons] at hc;have ha:=h a (by simp);rcases hc with rfl | rfl | rfl | hc
  ·exact js _
  ·exact ha.1
  ·exact ha.2
  ·exact ih (fun e he=>h e (by simp[he])) c hc
structure jo (w:World) (b:Nat) (es:List El) (qs:List Rat):Prop where
 own:ja w b 122 (jz es)
 len:qs.length≤es.length
 noi:∀e∈es,kf e.2.1∧kf e.2.2
 num:∀(i:Nat) (e:El) (q:Rat),es[i]? =some e→qs[i]? =some q→Rt w (kX e) q
section
variable {w w':World} {b:Nat} {es:List El} {qs:List Rat}
theorem jo.noInt (h:jo w b es qs):∀c∈jz es,kf c:=S1 es h.noi
theorem Rt.elNo {e:El} {q:Rat} (h:Rt w (kX e) q):kf e.2.1∧kf e.2.2:=by
 obtain⟨nv,dv,hv,h1,h2⟩:=h
 have e2:e.2.1=nv∧e.2.2=dv:=by simp[kX] at hv;exact hv.2
 rw[e2.1,e2.2];exact⟨h1.noInt,h2.noInt⟩
theorem jo.below (h:jo w b es qs) (hb:Below w.heap.size w w'):jo w' b es qs:=
 ⟨h.own.below hb h.own.lt,h.len,h.noi,fun i e q he hq=>(h.num i e q he hq).below hb⟩
theorem Nt.stay {g:Nat} {t:TypeId} {cs:List Value} {v:Value} {x:Nat} (h:Nt w v x) (hO:ja w g t cs) (hc:∀c∈cs,kf c) (hb:jh g w w'):Nt w' v x:=by
 obtain⟨ws,h1,h2,h3,A,n,c,hv,h4,h5,h6,h7⟩:=h;refine⟨ws,h1,h2,h3,A,n,c,hv,h4,h5,h6,fun hn=> ?_⟩;obtain⟨b,off,hA,hlt,hcell⟩:=h7 hn;refine⟨b,off,hA,Nat.lt_of_lt_of_le hlt hb.size,fun j u hu=> ?_⟩;have hj:=hcell j u hu
 have hne:b≠g:=by
  rintro rfl;rw[hO.cell] at hj;obtain⟨y,_,hy⟩:=List.mem_map.1 (List.mem_of_getElem? hu);exact hc u (List.mem_of_getElem? hj) _ _ hy.symm
 exact(World.cell?_of_block (a:=⟨b,off+j,none⟩) (hb.block b hlt hne)).trans hj
theorem Rt.stay {g:Nat} {t:TypeId} {cs:List Value} {v:Value} {q:Rat} (h:Rt w v q) (hO:ja w g t cs) (hc:∀c∈cs,kf c) (hb:jh g w w'):Rt w' v q:=by
 obtain⟨nv,dv,hv,h1,h2⟩:=h;exact⟨nv,dv,hv,h1.stay hO hc hb,h2.stay hO hc hb⟩
theorem jo.stay {g:Nat} {t:TypeId} {cs:List Value} (h:jo w b es qs) (hO:ja w g t cs) (hc:∀c∈cs,kf c) (hb:jh g w w') (hg:b≠g):jo w' b es qs:=
 ⟨h.own.but hb hg,h.len,h.noi,fun i e q he hq=>(h.num i e q he hq).stay hO hc hb⟩
theorem jh.set3 (w:World) (g i:Nat) (a b c:Value):jh g w (((w.setCell ⟨g,i,none⟩ a).setCell ⟨g,i+1,none⟩ b).setCell ⟨g,i+2,none⟩ c):=
 (((jh.refl g w).setCell ⟨g,i,none⟩ rfl a).setCell ⟨g,i+1,none⟩ rfl b).setCell ⟨g,i+2,none⟩ rfl c
theorem jo.put (h:jo w b es qs) {j:Nat} {e:El} {q:Rat} (hj:j<qs.length) (hq:Rt w (kX e) q):
  jo (((w.setCell ⟨b,j*3,none⟩ (.bool e.1)).setCell ⟨b,j*3+1,none⟩ e.2.1).setCell ⟨b,j*3+2,none⟩ e.2.2) b (es.set j e) (qs.set j q):=by
 have hb:=jh.set3 w b (j*3) (.bool e.1) e.2.1 e.2.2;have hn:=h.noInt;have hjl:j<es.length:=Nat.lt_of_lt_of_le hj h.len;refine⟨?_,by simpa using h.len,fun a ha=> ?_,fun i a r hi hr=> ?_⟩
 ·rw[←U4 es j e hjl]
  exact((h.own.put _ _).put _ _).put _ _
 ·rcases List.mem_or_eq_of_mem_set ha with ha | rfl
  ·exact h.noi a ha
  ·exact hq.elNo
 ·by_cases hij:j=i
  ·subst hij
   rw[List.getElem?_set_self hjl] at hi;rw[List.getElem?_set_self hj] at hr;obtain rfl:=Option.some.inj hi;obtain rfl:=Option.some.inj hr;exact hq.stay h.own hn hb
  ·rw[List.getElem?_set_ne hij] at hi hr
   exact(h.num i a r hi hr).stay h.own hn hb
theorem jo.at_ (h:jo w b es qs) {j:Nat} (hj:j<qs.length):∃(e:El) (A1:Option Addr) (n1 c1:Nat) (A2:Option Addr) (n2 c2:Nat),es[j]? =some e∧e=(e.1,.slice A1 n1 c1,.slice A2 n2 c2)∧Rt w (kX e) (qs[j]?.getD 0) ∧
  w.cell? ⟨b,j*3,none⟩=some (.bool e.1)∧w.cell? ⟨b,j*3+1,none⟩=some (.slice A1 n1 c1)∧w.cell? ⟨b,j*3+2,none⟩=some (.slice A2 n2 c2) ∧
  w.frozen? ⟨b,j*3,none⟩=false∧w.frozen? ⟨b,j*3+1,none⟩=false∧w.frozen? ⟨b,j*3+2,none⟩=false:=by
 have hl:j<es.length:=Nat.lt_of_lt_of_le hj h.len
 obtain⟨e0,he⟩:∃e0,es[j]? =some e0:=⟨es[j],List.getElem?_eq_getElem hl⟩
 have hr:=h.num j _ _ he (List.getElem?_eq_getElem hj);obtain⟨s,A1,n1,c1,A2,n2,c2,hs⟩:=hr.shape;obtain⟨s',a',b'⟩:=e0;simp[kX] at hs;obtain⟨rfl,rfl,rfl⟩:=hs;obtain⟨h1,h2,h3⟩:=Q0 es j _ he;refine⟨_,A1,n1,c1,A2,n2,c2,he,rfl,?_,(h.own.cell _).trans h1,(h.own.cell _).trans h2,(h.own.cell _).trans h3,h.own.free _,h.own.free _,h.own.free _⟩;rw[List.getElem?_eq_getElem hj];exact hr
end
