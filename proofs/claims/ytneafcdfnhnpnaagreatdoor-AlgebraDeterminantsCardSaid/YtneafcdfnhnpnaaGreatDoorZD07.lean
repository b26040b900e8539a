/- Contracts: Gcd, Inverse, IsPrime. -/
import Derived.Test.YtneafcdfnhnpnaaGreatDoorZD06
set_option maxRecDepth 100000
set_option maxHeartbeats 2000000
namespace Go.Proofs.YtneafcdfnhnpnaaGreatDoor
open Go.RowKit
def far (a:Int):Prop:=a < -999999999∨999999999<a
instance (a:Int):Decidable (far a):=by unfold far;infer_instance
def qk (a l h:Int):Int:=if l≤a∧a≤h then 0 else 3
theorem XM (a l h:Int) (w:World):Calls Tryz.prog 132 #[.int .i64 a,.int .i64 l,.int .i64 h] w fun e w'=>e = .returned (.int .i64 (qk a l h))∧w=w':=by
 unfold qk;split
 ·exact ZT _ _ _ _ (by omega) (by omega)
 ·exact ZS _ _ _ _ (by omega)
theorem KB (a:Int) (w:World):Calls Tryz.prog 129 #[.int .i64 a] w fun e w'=>e = .returned (.int .i64 (qk a (-999999999) 999999999))∧w=w':=by
 unfold qk;split
 ·exact Rq _ _ (by omega) (by omega)
 ·exact Rp _ _ (by omega)
def NF (a b:Int) (w:World) (e:Ending) (w':World):Prop:=
 e=(if far a∨far b then .returned (.tuple #[.int .i64 0,.int .i64 3]) else .returned (.tuple #[.int .i64 (Int.gcd a b),.int .i64 0]))∧Below w.heap.size w w'
theorem Q4 (x y:Int) (w:World) (t:TypeId):
  Calls Tryz.prog 111 #[.slice (some ⟨w.heap.size,0,none⟩) 2 2] (w.alloc (.cells #[.int .i64 x,.int .i64 y] t)) fun e w'=>e = .returned (.int .i64 (qe [x,y]))∧w.alloc (.cells #[.int .i64 x,.int .i64 y] t)=w':=
 Nn _ [x,y] _ (Sl.lit w t #[.int .i64 x,.int .i64 y] 2 rfl (by omega))
theorem MX (a b:Int) (w:World):
  Calls Tryz.prog 36 #[.int .i64 a,.int .i64 b] w (NF a b w):=by
 by_cases hf:far a∨far b
 ·have he:qe [qk a (-999999999) 999999999,qk b (-999999999) 999999999]=3:=by
   unfold far at hf;unfold qe qe qe qk;split <;> split <;> (try split) <;> omega
  have He:=Lib.hid he;clear he;have Hf:=Lib.hid hf;clear hf;go_enter Tryz.func36,Tryz.ntmps36
  go_wp2_with (first | (go_at_call 129;refine(KB _ _).mono ?_;rintro e w' ⟨rfl,rfl⟩) | (go_at_call 111;refine(Q4 _ _ _ _).mono ?_;rintro e w' ⟨rfl,rfl⟩;rw[He.out]))
  go_ret2;exact⟨by rw[if_pos Hf.out];rfl,(Below.refl _ _).alloc (Nat.le_refl _) _⟩
 ·have h1: -999999999≤a∧a≤999999999:=by unfold far at hf;omega
  have h2: -999999999≤b∧b≤999999999:=by unfold far at hf;omega
  have he:qe [qk a (-999999999) 999999999,qk b (-999999999) 999999999]=0:=by
   unfold qe qe qe qk;rw[if_pos h1,if_pos h2];rfl
  have hg:(Int.gcd a b:Int)≤999999999:=by
   by_cases h0:a=0
   ·subst h0;rw[Int.gcd_zero_left];omega
   ·have:=Int.gcd_le_natAbs_left b h0;omega
  have He:=Lib.hid he;clear he;have Hf:=Lib.hid hf;clear hf;obtain⟨h11,h12⟩:=h1;obtain⟨h21,h22⟩:=h2;go_enter Tryz.func36,Tryz.ntmps36
  go_wp2_with (first | (go_at_call 129;refine(KB _ _).mono ?_;rintro e w' ⟨rfl,rfl⟩) | (go_at_call 111;refine(Q4 _ _ _ _).mono ?_;rintro e w' ⟨rfl,rfl⟩;rw[He.out]) | (go_at_call 131;refine(VM _ _ (by omega) (by omega)).mono ?_;rintro e w' ⟨rfl,rfl⟩) | (go_at_call 130;refine(Qq _ _ _).mono ?_;rintro e w' ⟨rfl,n,rfl⟩))
  go_ret2;refine⟨?_,(below_drewN ((Below.refl _ _).alloc (Nat.le_refl _) _) n)⟩;rw[if_neg Hf.out];exact yJ (by rw[IntWalk.wrap64_in _ (by unfold Int.gcd at hg;omega)];rfl) rfl
def Df (a n:Int) (w:World) (e:Ending) (w':World):Prop:=
 (if far a∨n<1∨999999999<n then e = .returned (.tuple #[.int .i64 0,.int .i64 3])
  else if Int.gcd a n=1 then ∃x:Int,e = .returned (.tuple #[.int .i64 x,.int .i64 0])∧0≤x∧x<n∧n∣(x*a-1)
  else e = .returned (.tuple #[.int .i64 0,.int .i64 7]))∧Below w.heap.size w w'
theorem MZ (a n:Int) (w:World):
  Calls Tryz.prog 39 #[.int .i64 a,.int .i64 n] w (Df a n w):=by
 by_cases hf:far a∨n<1∨999999999<n
 ·have he:qe [qk a (-999999999) 999999999,qk n 1 999999999]=3:=by
   unfold far at hf;unfold qe qe qe qk;split <;> split <;> (try split) <;> omega
  have He:=Lib.hid he;clear he;have Hf:=Lib.hid hf;clear hf;go_enter Tryz.func39,Tryz.ntmps39
  go_wp2_with (first | (go_at_call 129;refine(KB _ _).mono ?_;rintro e w' ⟨rfl,rfl⟩) | (go_at_call 132;refine(XM _ _ _ _).mono ?_;rintro e w' ⟨rfl,rfl⟩) | (go_at_call 111;refine(Q4 _ _ _ _).mono ?_;rintro e w' ⟨rfl,rfl⟩;rw[He.out]))
  go_ret2;exact⟨by rw[if_pos Hf.out];rfl,(Below.refl _ _).alloc (Nat.le_refl _) _⟩
 ·have h1: -999999999≤a∧a≤999999999:=by unfold far at hf;omega
  have h2:1≤n∧n≤999999999:=by unfold far at hf;omega
  have he:qe [qk a (-999999999) 999999999,qk n 1 999999999]=0:=by
   unfold qe qe qe qk;rw[if_pos h1,if_pos h2];rfl
  have He:=Lib.hid he;clear he;have Hf:=Lib.hid hf;clear hf;obtain⟨h11,h12⟩:=h1;obtain⟨h21,h22⟩:=h2;go_enter Tryz.func39,Tryz.ntmps39
  go_wp2_with (first | (go_at_call 129;refine(KB _ _).mono ?_;rintro e w' ⟨rfl,rfl⟩) | (go_at_call 132;refine(XM _ _ _ _).mono ?_;rintro e w' ⟨rfl,rfl⟩) | (go_at_call 111;refine(Q4 _ _ _ _).mono ?_;rintro e w' ⟨rfl,rfl⟩;rw[He.out]) | fail)
  refine(VB _ _ _ h21 (by omega)).mono ?_;rintro e w' ⟨⟨k,rfl⟩,h⟩
  rcases h with ⟨hg,x,rfl,hx0,hxn,hxd⟩ | ⟨hg,rfl⟩
  ·have Hg:=Lib.hid hg;clear hg
   go_wp2
   go_ret2;refine⟨?_,(below_drewN ((Below.refl _ _).alloc (Nat.le_refl _) _) k)⟩;rw[if_neg Hf.out,if_pos Hg.out];exact⟨x,rfl,hx0,hxn,hxd⟩
  ·have Hg:=Lib.hid hg;clear hg
   go_wp2
   go_ret2;refine⟨?_,(below_drewN ((Below.refl _ _).alloc (Nat.le_refl _) _) k)⟩;rw[if_neg Hf.out,if_neg Hg.out];rfl
def Zl (m:Int) (w:World) (e:Ending) (w':World):Prop:=
 (if 0≤m∧m≤999999999 then ∃b:Bool,e = .returned (.tuple #[.bool b,.int .i64 0])∧(b=true↔yt m)
  else e = .returned (.tuple #[.bool false,.int .i64 3]))∧w=w'
theorem M0 (m:Int) (w:World):Calls Tryz.prog 42 #[.int .i64 m] w (Zl m w):=by
 by_cases hf:0≤m∧m≤999999999
 ·obtain⟨h1,h2⟩:=hf
  go_enter Tryz.func42,Tryz.ntmps42
  go_wp2_with (first | (go_at_call 132;refine(ZT _ _ _ _ h1 h2).mono ?_;rintro e w' ⟨rfl,rfl⟩) | (go_at_call 135;refine(NT _ _ h1 h2).mono ?_;rintro e w' ⟨b,rfl,hb,rfl⟩))
  go_ret2;exact⟨by rw[if_pos ⟨h1,h2⟩];exact⟨b,rfl,hb⟩,rfl⟩
 ·have h1:m<0∨999999999<m:=by omega
  have Hf:=Lib.hid hf;clear hf;go_enter Tryz.func42,Tryz.ntmps42
  go_wp2_with (first | (go_at_call 132;refine(ZS _ _ _ _ h1).mono ?_;rintro e w' ⟨rfl,rfl⟩))
  go_ret2;exact⟨by rw[if_neg Hf.out];rfl,rfl⟩
theorem Zv (p a:Int) (w:World):Calls Tryz.prog 319 #[.agg #[.int .i64 p],.int .i64 a] w fun e w'=>e = .returned (.bool (a==0))∧Below w.heap.size w w':=by
 by_cases h:(a==0)=true
 ·go_enter Tryz.func319,Tryz.ntmps319
  go_wp2
  go_ret;exact⟨by rw[h];rfl,(Below.refl _ _).alloc (Nat.le_refl _) _⟩
 ·have h':(a==0)=false:=by simpa using h
  clear h;go_enter Tryz.func319,Tryz.ntmps319
  go_wp2
  go_ret;exact⟨by rw[h'];rfl,(Below.refl _ _).alloc (Nat.le_refl _) _⟩
theorem Gj (p a b:Int) (w:World) (hp:1≤p) (hp2:p≤1000000000) (ha:0≤a∧a<p) (hb:0≤b∧b<p):Calls Tryz.prog 323 #[.agg #[.int .i64 p],.int .i64 a,.int .i64 b] w fun e w'=>e = .returned (.int .i64 (a*b%p))∧Below w.heap.size w w':=by
 have h1:0≤a*b:=Int.mul_nonneg ha.1 hb.1;have h2:a*b≤1000000000*1000000000:=Int.mul_le_mul (by omega) (by omega) hb.1 (by omega);obtain⟨ha1,ha2⟩:=ha;obtain⟨hb1,hb2⟩:=hb;go_enter Tryz.func323,Tryz.ntmps323
 go_wp2
 go_ret;exact⟨rfl,(Below.refl _ _).alloc (Nat.le_refl _) _⟩
theorem Gh (p a b:Int) (w:World) (hp:1≤p) (hp2:p≤1000000000) (ha:0≤a∧a<p) (hb:0≤b∧b<p):Calls Tryz.prog 320 #[.agg #[.int .i64 p],.int .i64 a,.int .i64 b] w fun e w'=>e = .returned (.int .i64 ((a-b)%p))∧Below w.heap.size w w':=by
 obtain⟨ha1,ha2⟩:=ha;obtain⟨hb1,hb2⟩:=hb;go_enter Tryz.func320,Tryz.ntmps320
 go_wp2_with (go_at_call 190;refine(Qi _ _ _ hp (by omega)).mono ?_;rintro e w' ⟨rfl,rfl⟩)
 go_ret;exact⟨rfl,(Below.refl _ _).alloc (Nat.le_refl _) _⟩
theorem Gi (p n:Int) (w:World) (hp:1≤p) (hp2:p≤1000000000):Calls Tryz.prog 321 #[.agg #[.int .i64 p],.int .i64 n] w fun e w'=>e = .returned (.int .i64 (n%p))∧Below w.heap.size w w':=by
 go_enter Tryz.func321,Tryz.ntmps321
 go_wp2_with (go_at_call 190;refine(Qi _ _ _ hp (by omega)).mono ?_;rintro e w' ⟨rfl,rfl⟩)
 go_ret;exact⟨rfl,(Below.refl _ _).alloc (Nat.le_refl _) _⟩
noncomputable def J4 (p b:Int):Int:=@Classical.epsilon Int ⟨0⟩ fun x=>0≤x∧x<p∧p∣(x*b-1)
theorem De (p b x:Int) (h0:0≤x) (h1:x<p) (h2:p∣(x*b-1)):J4 p b=x:=by
 have h:=Classical.epsilon_spec (p:=fun x=>0≤x∧x<p∧p∣(x*b-1)) ⟨x,h0,h1,h2⟩;change 0≤J4 p b∧J4 p b<p∧p∣(J4 p b*b-1) at h;generalize J4 p b=y at *;obtain⟨g0,g1,g2⟩:=h
 have hd:p∣(y-x):=by
  have e:y-x=y*(1-x*b)+x*(y*b-1):=by grind
  rw[e];exact Int.dvd_add (Int.dvd_trans (by rw[show (1-x*b) = -(x*b-1) by omega];exact Int.dvd_neg.mpr h2) (Int.dvd_mul_left ..)) (Int.dvd_trans g2 (Int.dvd_mul_left ..))
 have:=Int.emod_eq_of_lt g0 g1;have h3:=Int.emod_eq_of_lt h0 h1;have:=Int.emod_emod_of_dvd y (Int.dvd_refl p);have h4:(y-x)%p=0:=Int.emod_eq_zero_of_dvd hd;have h5:=(Int.emod_eq_emod_iff_emod_sub_eq_zero).mpr h4;omega
noncomputable def K8 (p a b:Int):Int:=a*J4 p b%p
def PF (p:Int):Prop:=2≤p∧p≤1000000000 ∧ ∀b,0<b→b<p→Int.gcd b p=1
theorem C4 (p a b:Int) (w:World) (hp:PF p) (ha:0≤a∧a<p) (hb:0<b∧b<p):Calls Tryz.prog 322 #[.agg #[.int .i64 p],.int .i64 a,.int .i64 b] w fun e w'=>e = .returned (.int .i64 (K8 p a b))∧Below w.heap.size w w':=by
 have hg:=Lib.hid (hp.2.2 b hb.1 hb.2);have hbg:=Lib.hid hb;have hag:=Lib.hid ha;have hpp:=Lib.hid hp;have hp1:=hp.1;have hp2:=hp.2.1;clear hp ha hb;go_enter Tryz.func322,Tryz.ntmps322
 go_wp2_with fail
 refine(VB _ _ _ (by omega) (by omega)).mono ?_;rintro e w1 ⟨⟨k,rfl⟩,h⟩
 rcases h with ⟨-,x,rfl,hx0,hx1,hx2⟩ | ⟨h,-⟩
 ·have hi:=Lib.hid (De p b x hx0 hx1 hx2)
  have HT:=Lib.hid (fun W=>Gj p a x W (by omega) (by omega) hag.out ⟨hx0,hx1⟩);clear hx2
  go_wp2_with (go_at_call 323;refine(HT.out _).mono ?_;rintro e w2 ⟨rfl,hB2⟩)
  go_ret;refine⟨?_,?_⟩
  ·unfold K8;rw[hi.out];rfl
  ·exact(below_drewN ((Below.refl _ w).alloc (Nat.le_refl _) _) k).trans (hB2.mono (by simp))
 ·exact absurd hg.out h
structure jh (g:Nat) (w w':World):Prop where
 os:w'.os=w.os
 tape:w'.tape=w.tape
 output:w'.output=w.output
 size:w.heap.size≤w'.heap.size
 block:∀k,k<w.heap.size→k≠g→w'.heap[k]? =w.heap[k]?
theorem jh.refl (g:Nat) (w:World):jh g w w:=⟨rfl,rfl,rfl,Nat.le_refl _,fun _ _ _=>rfl⟩
theorem jh.trans {g:Nat} {a b c:World} (h:jh g a b) (k:jh g b c):jh g a c:=
 ⟨k.os.trans h.os,k.tape.trans h.tape,k.output.trans h.output,Nat.le_trans h.size k.size,fun i hi hg=>(k.block i (Nat.lt_of_lt_of_le hi h.size) hg).trans (h.block i hi hg)⟩
theorem jh.of_below {g:Nat} {a b:World} (h:Below a.heap.size a b):jh g a b:=⟨h.os,h.tape,h.output,h.size,fun i hi _=>h.block i hi⟩
theorem jh.below {g:Nat} {a b c:World} (h:jh g a b) (k:Below b.heap.size b c):jh g a c:=h.trans (jh.of_below k)
theorem jh.setCell {g:Nat} {a b:World} (h:jh g a b) (p:Addr) (hp:p.block=g) (u:Value):jh g a (b.setCell p u):=
 h.trans ⟨rfl,rfl,rfl,by simp[World.setCell],fun k _ hg=>Below.heap_setCell _ _ _ _ (by omega)⟩
theorem jh.toBelow {g B:Nat} {a b:World} (h:jh g a b) (hg:B≤g) (hB:B≤a.heap.size):Below B a b:=⟨h.os,h.tape,h.output,h.size,fun k hk=>h.block k (by omega) (by omega)⟩
theorem ja.but {w w':World} {g h:Nat} {t:TypeId} {cs:List Value} (o:ja w h t cs) (hb:jh g w w') (hg:h≠g):ja w' h t cs:=(hb.block h o.lt hg).trans o
theorem YP (p:Int) (w:World):(method 444 197 (.agg #[.int .i64 p]) "talisman/algebra.isZero").run Tryz.prog w = .ok (319,.agg #[.int .i64 p]) w:=by kernel_rfl
theorem AV (p:Int) (w:World):(method 444 197 (.agg #[.int .i64 p]) "talisman/algebra.over").run Tryz.prog w = .ok (322,.agg #[.int .i64 p]) w:=by kernel_rfl
theorem La (p:Int) (w:World):(method 444 197 (.agg #[.int .i64 p]) "talisman/algebra.times").run Tryz.prog w = .ok (323,.agg #[.int .i64 p]) w:=by kernel_rfl
theorem V0 (p:Int) (w:World):(method 444 197 (.agg #[.int .i64 p]) "talisman/algebra.minus").run Tryz.prog w = .ok (320,.agg #[.int .i64 p]) w:=by kernel_rfl
theorem AG (p:Int) (w:World):(method 444 197 (.agg #[.int .i64 p]) "talisman/algebra.of").run Tryz.prog w = .ok (321,.agg #[.int .i64 p]) w:=by kernel_rfl
def kV (f:Int→Int) (o k:Nat) (L:List Int):List Int:=L.mapIdx fun j x=>if o≤j∧j<o+k then f x else x
theorem YX (f:Int→Int) (o k:Nat) (L:List Int):(kV f o k L).length=L.length:=by simp[kV]
theorem VT (f:Int→Int) (o:Nat) (L:List Int):kV f o 0 L=L:=by
 apply List.ext_getElem?;intro j;simp only[kV,List.getElem?_mapIdx,Nat.add_zero]
 cases L[j]? with
 | none=>rfl
 | some x=>simp only[Option.map_some];rw[if_neg (by omega)]
theorem YW (f:Int→Int) (o k:Nat) (L:List Int):(kV f o k L)[o+k]? =L[o+k]? :=by
 simp only[kV,List.getElem?_mapIdx,Nat.lt_irrefl,and_false,if_false];cases L[o+k]? <;> simp
theorem YZ (f:Int→Int) (o k:Nat) (L:List Int) (h:o+k<L.length):(kV f o k L).set (o+k) (f (L[o+k]?.getD 0))=kV f o (k+1) L:=by
 apply List.ext_getElem?;intro j;rw[List.getElem?_set];simp only[kV,List.getElem?_mapIdx,List.length_mapIdx];by_cases hj:o+k=j
 ·subst hj;simp[h]
 ·rw[if_neg hj]
  rcases Nat.lt_or_ge j L.length with hl | hl
  ·rw[List.getElem?_eq_getElem hl]
   simp only[Option.map_some,Option.some.injEq];by_cases h2:o≤j∧j<o+k
   ·rw[if_pos h2,if_pos (by omega)]
   ·rw[if_neg h2,if_neg (by omega)]
  ·rw[List.getElem?_eq_none hl];rfl
theorem DX (f:Int→Int) (o k:Nat) (L:List Int) (h:o+k<L.length) (hf:f (L[o+k]?.getD 0)=L[o+k]?.getD 0):kV f o (k+1) L=kV f o k L:=by
 rw[←YZ f o k L h,hf];apply List.ext_getElem?;intro j;rw[List.getElem?_set,YX];by_cases hj:o+k=j
 ·subst hj;rw[YW];simp[h]
 ·rw[if_neg hj]
noncomputable def y5 (p d x:Int):Int:=if x=0 then x else K8 p x d
theorem UZ (p d:Int) (w:World) (b o n c:Nat) (L:List Int) (hO:ja w b 2 (je L)) (hn:o+n=L.length) (hc1:n≤c) (hc2:c≤1000000)
  (hp:PF p) (hL:∀x∈L,0≤x∧x<p) (hd:0<d∧d<p):
  Calls Tryz.prog 212 #[.iface 197 (.agg #[.int .i64 p]),.slice (some ⟨b,o,none⟩) n c,.int .i64 d] w fun e w'=>
   e = .returned (.tuple #[])∧ja w' b 2 (je (kV (y5 p d) o n L))∧jh b w w':=by
 have hZ:=YP p;have hV:=AV p;have HZ:=Lib.hid (fun (x:Int) W=>Zv p x W);have HO:=Lib.hid (fun (x:Int) W hx=>C4 p x d W hp hx hd);have HL:=Lib.hid hL;clear hp hd hL
 have hstart:ja w b 2 (je (kV (y5 p d) o 0 L)):=by rw[VT];exact hO
 have hb:b<w.heap.size:=hO.lt;go_enter Tryz.func212,Tryz.ntmps212
 go_wp2_with fail
 clear hO
 go_loopw [6,7,10] (fun _ _ i wr=>∃(k:Nat),i = .int .i64 k∧k≤n∧ja wr b 2 (je (kV (y5 p d) o k L))∧jh b w wr) (fun _ _ i _=>n-(intOf i).toNat)
 case atStart=>exact⟨0,rfl,by omega,hstart,jh.refl _ _⟩
 case round=>
  clear hstart;obtain⟨k,rfl,hk,hO,hB⟩:=hrel;by_cases hlt:k<n
  ·have hck:=(hO.cell (o+k)).trans (kA _ (o+k) (by rw[YX];omega))
   rw[YW] at hck;have hfr:=hO.free (o+k);have hx:=HL.out (L[o+k]?.getD 0) (by rw[List.getElem?_eq_getElem (by omega)];exact List.getElem_mem (by omega));have Hsame:=Lib.hid (DX (y5 p d) o k L (by omega));have Hsucc:=Lib.hid (YZ (y5 p d) o k L (by omega));generalize L[o+k]?.getD 0=x at *;by_cases h0:(x==0)=true
   ·have Hs:=Lib.hid (Hsame.out (by unfold y5;rw[if_pos (by simpa using h0)]))
    go_wp2_with fail
    refine(HZ.out _ _).mono ?_;rintro e w2 ⟨rfl,hB2⟩;have hB':=hB.below hB2;have hO':=hO.below hB2 hO.lt;clear hck hfr hO hB hx
    go_wp2
    refine⟨⟨k+1,by go_num,by omega,?_,hB'⟩,by simp[intOf];omega⟩;rw[Hs.out];exact hO'
   ·have h0':(x==0)=false:=by simpa using h0
    have Hv:=Lib.hid (show y5 p d x=K8 p x d by unfold y5;rw[if_neg (by simpa using h0)]);clear h0
    go_wp2_with fail
    refine(HZ.out _ _).mono ?_;rintro e w2 ⟨rfl,hB2⟩;have hB':=hB.below hB2;have hO':=hO.below hB2 hO.lt;clear hck hfr hO hB hB2
    go_wp2_with fail
    refine(HO.out _ _ hx).mono ?_;rintro e w3 ⟨rfl,hB3⟩;have hB:=hB'.below hB3;have hO:=hO'.below hB3 hO'.lt;have hck2:=(hO.cell (o+k)).trans (kA _ (o+k) (by rw[YX];omega));have hfr:=hO.free (o+k);clear hB' hO' hB3 hx
    go_wp2
    refine⟨⟨k+1,by go_num,by omega,?_,hB.setCell _ rfl _⟩,by simp[intOf];omega⟩;rw[←Hsucc.out,Hv.out,←xK];exact hO.put _ _
  ·have hkk:k=n:=by omega
   subst hkk
   go_wp2
   go_end0
   exact⟨rfl,hO,hB⟩
end Go.Proofs.YtneafcdfnhnpnaaGreatDoor
namespace Go.Proofs.YtneafcdfnhnpnaaGreatDoor
open Go.RowKit Go.Lib
def Ud {α:Type} (P:Program) (gf:Nat) (lb:Array Value) (xs:List α) (Pr:Nat→α→Value→World→Prop) (Kp:Nat→World→World→Prop) (W:World):Prop:=
 ∀(l:Nat) (J:List α→World→Prop),
  (∀pre A A',J pre A→jh W.heap.size A A'→J pre A') →
  (∀pre x post v A,xs=pre++x::post→J pre A→W.heap.size<A.heap.size→Pr W.heap.size x v A →
   YieldAt Fence.wide 2 P l #[v] A fun e A'=>e = .returned (.bool true)∧J (pre++[x]) A'∧Kp W.heap.size A A') →
  J [] W →
  CallsIn Fence.wide 3 P gf (#[.func (.yield l) #[] #[]]++lb) W fun e W'=>(∃v,e = .returned v)∧J xs W'
def Rn (b:Nat) (R:World→World→Prop) (A:World):Exit→Act→World→Prop
 | .normal,_,A'=>A'.heap[b]? =A.heap[b]? ∧A'.heap[b+1]? =A.heap[b+1]? ∧R A A'
 | _,_,_=>False
theorem Zq {α:Type} {P:Program} {g:Operand} {ps:Array Tmp} {assign body:Code} {Q:Exit→Act→World→Prop} {a:Act} {w:World} {gf:Nat} {lb:Array Value} {xs:List α} {Pr:Nat→α→Value→World→Prop} {Kp:Nat→World→World→Prop}
  (hg:a.eval g = .func (.func gf) #[] lb) (eg:∀args w,(callFunc gf args).run P w = .ok (.enter gf args) w)
  (hseq:∀W,Below w.heap.size w W→W.heap.size=w.heap.size+2→Ud P gf lb xs Pr Kp W) (hps:ps.size=1)
  (I:List α→World→Prop) (hI:∀pre A A',I pre A→jh (w.heap.size+2) A A'→I pre A') (hI2:∀pre A l o,I pre A→l=w.heap.size+1→l<A.heap.size→I pre (A.putObj l o))
  (hKt:∀A B C,Kp (w.heap.size+2) A B→Kp (w.heap.size+2) B C→Kp (w.heap.size+2) A C) (hKb:∀A o,w.heap.size+1<A.heap.size→Kp (w.heap.size+2) A (A.putObj (w.heap.size+1) o))
  (hPr:∀x v A o,w.heap.size+1<A.heap.size→Pr (w.heap.size+2) x v A→Pr (w.heap.size+2) x v (A.putObj (w.heap.size+1) o))
  (h0:∀o1 o2,I [] ((w.alloc o1).alloc o2)) (a₁:Value→Act)
  (hassign:∀(l:Nat) (v:Value) (W:World) (K:Act→World→Prop),K (a₁ v) W →
   assign.wpIn (Fence.wide.inRound l) 2 P (Exit.then K fun _ _ _=>False) { tmps:=(ps.zip #[v]).foldl (fun t (p,v)=>t.setIfInBounds p v) a.tmps,defers:=[] } W)
  (hbody:∀(l:Nat) pre x post v A,xs=pre++x::post→I pre A→w.heap.size+2<A.heap.size→Pr (w.heap.size+2) x v A →
   body.wpIn (Fence.wide.inRound l) 2 P (Rn w.heap.size (fun A A'=>I (pre++[x]) A'∧Kp (w.heap.size+2) A A') A) (a₁ v) A)
  (hdone:∀W,I xs W→W.heap[w.heap.size]? =some (.deferred (some []))→Q .normal { a with defers:= { target:= .collected w.heap.size,args:= #[] } ::a.defers } W):
  (Code.rangeFunc g ps assign body).wpIn Fence.wide 4 P Q a w:=by
 refine wpIn_rangeFunc fun fn hfn=> ?_
 generalize hrec:(fun st pe=>({ state:=st,pending:=pe,fn,tmps:=a.tmps,params:=ps,assign,body,defers:=w.heap.size } :Loop))=rec
 have hrec':∀st pe,rec st pe = { state:=st,pending:=pe,fn,tmps:=a.tmps,params:=ps,assign,body,defers:=w.heap.size } :=fun st pe=>by rw[←hrec]
 clear hrec
 obtain⟨W1,hW1⟩:∃W1,W1=(w.alloc (.deferred (some []))).alloc (.loop (rec .ready none)):=⟨_,rfl⟩
 have hs1:W1.heap.size=w.heap.size+2:=by rw[hW1];simp
 have hL1:W1.heap[w.heap.size+1]? =some (.loop (rec .ready none)):=by
  rw[hW1];have:=World.alloc_heap_new (w.alloc (.deferred (some []))) (.loop (rec .ready none));rwa [World.size_alloc] at this
 have hD1:W1.heap[w.heap.size]? =some (.deferred (some [])):=by
  rw[hW1];exact(Below.heap_alloc _ _ _ (by simp)).trans (World.alloc_heap_new w _)
 have hB1:Below w.heap.size w W1:=by rw[hW1];exact((Below.refl _ w).alloc (Nat.le_refl _) _).alloc (by simp) _
 have hI1:I [] W1:=by rw[hW1];exact h0 _ _
 refine⟨w.heap.size+1,[{ target:= .collected w.heap.size,args:= #[] }],W1,{ target:= .fn (.func gf) lb,args:= #[.func (.yield (w.heap.size+1)) #[] #[]] },W1,gf,
  #[.func (.yield (w.heap.size+1)) #[] #[]]++lb,W1,?_,?_,fun _ _=>trivial,?_,(fun h=>by cases h),?_⟩
 ·rw[hW1,hrec'];exact run_enterLoop_outer _ _ _ _ _
 ·simp only[resolve,hg]
  simp[go_sem]
 ·simp[invoke,go_sem,eg]
 have hq:=hseq W1 hB1 hs1 (w.heap.size+1) (fun pre A=>I pre A∧A.heap[w.heap.size+1]? =some (.loop (rec .ready none))∧A.heap[w.heap.size]? =some (.deferred (some [])));rw[hs1] at hq;refine(hq ?_ ?_ ⟨hI1,hL1,hD1⟩).mono ?_
 ·rintro pre A A' ⟨hi,hl,hd⟩ hb
  have h1:=(Array.getElem?_eq_some_iff.1 hl).1;exact⟨hI _ _ _ hi hb,(hb.block _ h1 (by omega)).trans hl,(hb.block _ (by omega) (by omega)).trans hd⟩
 ·rintro pre x post v A hx ⟨hi,hl,hd⟩ hlt hp
  have h1:=(Array.getElem?_eq_some_iff.1 hl).1;have hy:=run_yield (P:=P) (args:= #[v]) hl (by rw[hrec'];simp[hps]);rw[hrec'] at hy;refine⟨fn,_,assign,body,hy,roundIn_of_wpIn trivial (hassign _ v A _ ⟨_,run_beginRound hl (by rw[hrec']),?_⟩)⟩
  obtain⟨A2,hA2⟩:∃A2,A2=A.putObj (w.heap.size+1) (.loop { rec .ready none with state:= .busy }):=⟨_,rfl⟩
  have hl2:A2.heap[w.heap.size+1]? =some (.loop { rec .ready none with state:= .busy }):=by rw[hA2];exact World.putObj_heap_same h1
  have hd2:A2.heap[w.heap.size]? =some (.deferred (some [])):=by rw[hA2];exact(World.putObj_heap_other (by omega)).trans hd
  have hk2:Kp (w.heap.size+2) A A2:=by rw[hA2];exact hKb _ _ h1
  have hi2:I pre A2:=by rw[hA2];exact hI2 _ _ _ _ hi rfl h1
  have hp2:Pr (w.heap.size+2) x v A2:=by rw[hA2];exact hPr _ _ _ _ h1 hp
  have hs2:A2.heap.size=A.heap.size:=by rw[hA2];simp[World.putObj]
  rw[←hA2];refine wpIn_mono (hbody _ pre x post v A2 hx hi2 (by omega) hp2) ?_;rintro e a3 W3 hq3
  cases e with
  | normal=>
   obtain⟨q1,q2,hi3,hk3⟩:=hq3;have hl3:=q2.trans hl2;have h3:=(Array.getElem?_eq_some_iff.1 hl3).1;have hr:=run_endRound (P:=P) none hl3;refine⟨_,_,hr,rfl,⟨hI2 _ _ _ _ hi3 rfl h3,?_,(World.putObj_heap_other (by omega)).trans (q1.trans hd2)⟩,hKt _ _ _ (hKt _ _ _ hk2 hk3) (hKb _ _ h3)⟩;rw[World.putObj_heap_same h3,hrec'];rfl
  | ret=>exact hq3.elim
  | exit id=>exact hq3.elim
  | goto t=>exact hq3.elim
  | panic ch=>exact hq3.elim
  | outgrown=>exact hq3.elim
 ·rintro e W2 ⟨⟨v,rfl⟩,hi,hl,hd⟩
  have h1:=(Array.getElem?_eq_some_iff.1 hl).1;have he:=run_endLoop (P:=P) hl (by rw[hrec'];simp);rw[hrec'] at he;exact⟨none,_,he,hdone _ (hI2 _ _ _ _ hi rfl h1) ((World.putObj_heap_other (by omega)).trans hd)⟩
