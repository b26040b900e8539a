/- The division of two words by one. -/
import Derived.Test.YtneafcdfnhnpnaaGreatDoorZD01
set_option maxHeartbeats 1000000
namespace Go.Proofs.YtneafcdfnhnpnaaGreatDoor
open Go.RowKit
theorem K1 (x y hi lo:Nat) (w:World) (hx:x<WB) (hy:y<WB) (h:x*y=hi*WB+lo) (hlo:lo<WB):
  Calls Tryz.prog 193 #[.int .u64 x,.int .u64 y] w fun e w'=>e = .returned (.tuple #[.int .u64 hi,.int .u64 lo])∧w=w':=by
 refine(Tryz.bits_Mul64 x y hx hy w).mono fun e w' ⟨h1,h2⟩=>⟨?_,h2.symm⟩
 have e1:x*y/18446744073709551616=hi:=by unfold WB at *;omega
 have e2:x*y%18446744073709551616=lo:=by unfold WB at *;omega
 rw[h1,e1,e2]
theorem UU (lo y q r:Nat) (w:World) (hl:lo<WB) (h:lo=q*y+r) (hr:r<y):
  Calls Tryz.prog 234 #[.int .u64 0,.int .u64 lo,.int .u64 y] w fun e w'=>e = .returned (.tuple #[.int .u64 q,.int .u64 r]) ∧ ∃n,w'=w.drewN n:=by
 have hy0:((y:Int)==0)=false:=by simpa using (by omega:¬(y:Int)=0)
 have hq:lo/y=q:=by rw[h,Nat.mul_comm,Nat.mul_add_div (by omega),Nat.div_eq_of_lt hr];omega
 have hm:lo%y=r:=by rw[h,Nat.mul_comm,Nat.mul_add_mod,Nat.mod_eq_of_lt hr]
 have Hq:=Lib.hid hq;clear hq;have Hm:=Lib.hid hm;clear hm;have H:=Lib.hid h;clear h;unfold WB at hl;go_enter Tryz.func234,Tryz.ntmps234
 go_wp2
 go_quiet (fail)
 go_wp2
 go_ret2;refine⟨?_,nq,rfl⟩
 have e1:((lo:Int)/(y:Int))=(q:Int):=by rw[←Hq.out];rfl
 have e2:((lo:Int)%(y:Int))=(r:Int):=by rw[←Hm.out];rfl
 have e3:q≤lo:=by rw[←Hq.out];exact Nat.div_le_self _ _
 exact yJ (by rw[e1,IntWalk.u64_in _ (by omega)]) e2
def MV:Prop:=∀(hi lo y q r:Nat) (w:World),hi<y→lo<WB→y<WB→hi*WB+lo=q*y+r→r<y →
  Calls Tryz.prog 234 #[.int .u64 hi,.int .u64 lo,.int .u64 y] w fun e w'=>e = .returned (.tuple #[.int .u64 q,.int .u64 r]) ∧ ∃n,w'=w.drewN n
theorem Ld (a n:Int) (hn:1≤n): -n<a.tmod n∧a.tmod n<n:=by
 have h1:=Int.tmod_lt_of_pos a (show 0<n by omega);have h2:=Int.lt_tmod_of_pos a (show 0<n by omega);omega
theorem Gf (a n:Int) (hn:1≤n) (hn2:n≤4000000000000000000):(wrap64 (a.tmod n+n)).tmod n=a%n:=by
 have hb:=Ld a n hn;rw[IntWalk.wrap64_in _ (by omega),Int.tmod_eq_emod_of_nonneg (by omega),Int.add_emod_right];have h:=Int.mul_tdiv_add_tmod a n
 have:a%n=(n*a.tdiv n+a.tmod n)%n:=by rw[h]
 rw[this,Int.mul_add_emod_self_left]
theorem Qi (a n:Int) (w:World) (hn:1≤n) (hn2:n≤4000000000000000000):
  Calls Tryz.prog 190 #[.int .i64 a,.int .i64 n] w fun e w'=>e = .returned (.int .i64 (a%n))∧w=w':=by
 go_enter Tryz.func190,Tryz.ntmps190
 go_wp2
 go_ret;exact⟨Jc (Gf a n hn hn2),rfl⟩
theorem Qq (a b:Nat) (w:World):
  Calls Tryz.prog 130 #[.int .u64 a,.int .u64 b] w fun e w'=>e = .returned (.int .u64 (Nat.gcd a b)) ∧ ∃n,w'=w.drewN n:=by
 go_enter Tryz.func130,Tryz.ntmps130
 go_wp2
 go_loopw [0,1] (fun u v wr=>∃x y n:Nat,u = .int .u64 x∧v = .int .u64 y∧Nat.gcd x y=Nat.gcd a b∧wr=w.drewN n) (fun _ v _=>(intOf v).toNat)
 case atStart=>exact⟨a,b,0,rfl,rfl,rfl,rfl⟩
 case round=>
  obtain⟨x,y,n,rfl,rfl,hg,rfl⟩:=hrel;by_cases hy:y=0
  ·subst hy
   go_wp2
   go_ret;exact⟨Jc (by rw[←hg,Nat.gcd_zero_right]),n,rfl⟩
  ·have hb:((y:Int) != 0)=true:=by simpa using hy
   go_wp2
   go_quiet (fail)
   go_wp2
   go_roundw
   case rel=>exact⟨y,x%y,n+nq,rfl,by simp,by rw[←hg,Nat.gcd_comm x y,Nat.gcd_rec y x,Nat.gcd_comm],by rw[World.drewN_drewN]⟩
   case measure=>simp[intOf];exact Nat.mod_lt _ (by omega)
theorem VM (a:Int) (w:World) (h1: -9223372036854775808≤a) (h2:a≤9223372036854775807):
  Calls Tryz.prog 131 #[.int .i64 a] w fun e w'=>e = .returned (.int .u64 a.natAbs)∧w=w':=by
 by_cases h:a<0
 ·go_enter Tryz.func131,Tryz.ntmps131
  go_wp2
  go_ret;exact⟨Jc (by rw[IntKind.wrap_u64,IntKind.wrap_u64];omega),rfl⟩
 ·go_enter Tryz.func131,Tryz.ntmps131
  go_wp2
  go_ret;exact⟨Jc (by omega),rfl⟩
theorem ZT (a l h:Int) (w:World) (h1:l≤a) (h2:a≤h):
  Calls Tryz.prog 132 #[.int .i64 a,.int .i64 l,.int .i64 h] w fun e w'=>e = .returned (.int .i64 0)∧w=w':=by
 go_enter Tryz.func132,Tryz.ntmps132
 go_wp2
 go_ret;exact⟨rfl,rfl⟩
theorem ZS (a l h:Int) (w:World) (h1:a<l∨h<a):
  Calls Tryz.prog 132 #[.int .i64 a,.int .i64 l,.int .i64 h] w fun e w'=>e = .returned (.int .i64 3)∧w=w':=by
 by_cases h2:a<l
 ·go_enter Tryz.func132,Tryz.ntmps132
  go_wp2
  go_ret;exact⟨rfl,rfl⟩
 ·have h3:h<a:=by omega
  go_enter Tryz.func132,Tryz.ntmps132
  go_wp2
  go_ret;exact⟨rfl,rfl⟩
theorem Rq (a:Int) (w:World) (h1: -999999999≤a) (h2:a≤999999999):
  Calls Tryz.prog 129 #[.int .i64 a] w fun e w'=>e = .returned (.int .i64 0)∧w=w':=by
 go_enter Tryz.func129,Tryz.ntmps129
 go_wp2_with (go_at_call 132;refine(ZT _ _ _ _ h1 h2).mono ?_;rintro e w' ⟨rfl,rfl⟩)
 go_ret;exact⟨rfl,rfl⟩
theorem Rp (a:Int) (w:World) (h:a < -999999999∨999999999<a):
  Calls Tryz.prog 129 #[.int .i64 a] w fun e w'=>e = .returned (.int .i64 3)∧w=w':=by
 go_enter Tryz.func129,Tryz.ntmps129
 go_wp2_with (go_at_call 132;refine(ZS _ _ _ _ h).mono ?_;rintro e w' ⟨rfl,rfl⟩)
 go_ret;exact⟨rfl,rfl⟩
theorem jy (ws:List Nat):(jv ws).length=ws.length:=by simp[jv]
theorem ZQ (ws:List Nat) (k:Nat) (h:k<ws.length):(jv ws)[k]? =some (Value.int .u64 ((ws[k]?.getD 0:Nat):Int)):=by
 simp[jv,h]
theorem Mg (ws:List Nat) (k:Nat):(jv ws).take k=jv (ws.take k):=by simp[jv]
theorem ZN (A:Option Addr) (c:Nat) (ws:List Nat) (w:World) (hv:Sl w 1 (.slice A ws.length c) (jv ws)):
  Calls Tryz.prog 195 #[.slice A ws.length c] w fun e w'=>e = .returned (.slice A (jE ws).length c)∧Sl w 1 (.slice A (jE ws).length c) (jv (jE ws))∧w=w':=by
 have hc:=hv.form;obtain⟨A0,c0,hv0,hc1,hc2⟩:=hc;rw[jy] at hc1 hv0
 obtain⟨rfl,rfl⟩:A=A0∧c=c0:=by simpa using hv0
 clear hv0;go_enter Tryz.func195,Tryz.ntmps195
 go_wp2
 go_loop [3] (fun u=>∃k:Nat,u = .int .i64 k∧k≤ws.length∧Hid (jE (ws.take k)=jE ws)) (fun u=>(intOf u).toNat)
 case atStart=>exact⟨ws.length,rfl,by omega,Lib.hid (by simp)⟩
 case round=>
  obtain⟨k,rfl,hk,hf⟩:=hrel;by_cases h0:0<k
  ·obtain⟨j,rfl⟩:∃j,k=j+1:=⟨k-1,by omega⟩
   obtain⟨b,off,rfl,hb,hcell⟩:=hv.at_ (k:=j) (by rw[jy];omega);have hck:=hcell j (by rw[jy];omega);rw[ZQ ws j (by omega)] at hck;have Ht:=Lib.hid (yN ws j (by omega));generalize hx:ws[j]?.getD 0=x at hck Ht;clear hx hcell;by_cases hz:x=0
   ·subst hz
    go_wp2
    refine⟨⟨j,rfl,by omega,Lib.hid ?_⟩,by simp[intOf]⟩;rw[←hf.out,Ht.out,zJ]
   ·have hz':(((x:Nat):Int)==0)=false:=by simpa using hz
    have hlen:jE ws=ws.take (j+1):=by rw[←hf.out,Ht.out,zI _ _ hz]
    have hsl:=hv.take (k:=j+1) (by omega);rw[Mg,←hlen] at hsl
    have hn:(jE ws).length=j+1:=by rw[hlen];simp;omega
    have Hn:=Lib.hid hn;clear hn;clear hlen
    go_wp2
    go_ret;refine⟨by rw[Hn.out];rfl,by rw[Hn.out];exact hsl,rfl⟩
  ·have:k=0:=by omega
   subst this
   have hn:jE ws=[]:=by rw[←hf.out];rfl
   have Hn:=Lib.hid hn;clear hn;have hsl:=hv.take (k:=0) (by omega)
   go_wp2
   go_ret;refine⟨by rw[Hn.out];rfl,by rw[Hn.out];exact hsl,rfl⟩
def kp (x y:Nat):Int:=if x<y then -1 else if y<x then 1 else 0
theorem Sb (x y:Nat) (w:World):
  Calls Tryz.prog 245 #[.int .u64 x,.int .u64 y] w fun e w'=>e = .returned (.int .i64 (kp x y))∧w=w':=by
 have n1:∀(z:Nat) (w:World),Calls Tryz.prog 269 #[.int .u64 z] w fun e w'=>e = .returned (.bool false)∧w=w':=by
  intro z w;go_enter Tryz.func269,Tryz.ntmps269
  go_wp2
  go_ret;exact⟨by simp,rfl⟩
 have N1:=Lib.hid n1;clear n1;unfold kp;by_cases h:x<y
 ·rw[if_pos h]
  go_enter Tryz.func245,Tryz.ntmps245
  go_wp2_with (go_at_call 269;refine(N1.out _ _).mono ?_;rintro e w' ⟨rfl,rfl⟩)
  go_ret;exact⟨rfl,rfl⟩
 ·rw[if_neg h]
  by_cases h2:y<x
  ·rw[if_pos h2]
   go_enter Tryz.func245,Tryz.ntmps245
   go_wp2_with (go_at_call 269;refine(N1.out _ _).mono ?_;rintro e w' ⟨rfl,rfl⟩)
   go_ret;exact⟨rfl,rfl⟩
  ·rw[if_neg h2]
   go_enter Tryz.func245,Tryz.ntmps245
   go_wp2_with (go_at_call 269;refine(N1.out _ _).mono ?_;rintro e w' ⟨rfl,rfl⟩)
   go_ret;exact⟨rfl,rfl⟩
theorem Sa (x y:Nat) (w:World):
  Calls Tryz.prog 244 #[.int .i64 x,.int .i64 y] w fun e w'=>e = .returned (.int .i64 (kp x y))∧w=w':=by
 have n1:∀(z:Int) (w:World),Calls Tryz.prog 268 #[.int .i64 z] w fun e w'=>e = .returned (.bool false)∧w=w':=by
  intro z w;go_enter Tryz.func268,Tryz.ntmps268
  go_wp2
  go_ret;exact⟨by simp,rfl⟩
 have N1:=Lib.hid n1;clear n1;unfold kp;by_cases h:x<y
 ·rw[if_pos h]
  go_enter Tryz.func244,Tryz.ntmps244
  go_wp2_with (go_at_call 268;refine(N1.out _ _).mono ?_;rintro e w' ⟨rfl,rfl⟩)
  go_ret;exact⟨rfl,rfl⟩
 ·rw[if_neg h]
  by_cases h2:y<x
  ·rw[if_pos h2]
   go_enter Tryz.func244,Tryz.ntmps244
   go_wp2_with (go_at_call 268;refine(N1.out _ _).mono ?_;rintro e w' ⟨rfl,rfl⟩)
   go_ret;exact⟨rfl,rfl⟩
  ·rw[if_neg h2]
   go_enter Tryz.func244,Tryz.ntmps244
   go_wp2_with (go_at_call 268;refine(N1.out _ _).mono ?_;rintro e w' ⟨rfl,rfl⟩)
   go_ret;exact⟨rfl,rfl⟩
end Go.Proofs.YtneafcdfnhnpnaaGreatDoor
namespace Go.Proofs.YtneafcdfnhnpnaaGreatDoor
open Go.RowKit Go.Lib
theorem UT (d:Nat) (h:d<10):(ByteArray.mk #[48,49,50,51,52,53,54,55,56,57]).extract d (d+1)=⟨#[UInt8.ofNat (48+d)]⟩:=by
 have:∀d:Fin 10,(ByteArray.mk #[48,49,50,51,52,53,54,55,56,57]).extract d.1 (d.1+1)=⟨#[UInt8.ofNat (48+d.1)]⟩:=by decide +kernel
 exact this ⟨d,h⟩
def zK (n y:Nat) (acc:List UInt8):Prop:=(y=0∧acc≠[]∧decDigits n=acc)∨(decDigits n=decDigits y++acc∧(y=0→acc=[]))
theorem zK.step {n y:Nat} {acc:List UInt8} (h:zK n y acc) (hc:0<y∨acc.length<1):zK n (y/10) (UInt8.ofNat (48+y%10)::acc):=by
 rcases h with ⟨h1,h2,h3⟩ | ⟨h1,h2⟩
 ·exact absurd (List.length_eq_zero_iff.1 (by omega)) h2
 ·by_cases h10:y<10
  ·refine .inl ⟨by omega,by simp,?_⟩
   rw[h1,decDigits_one h10,Nat.mod_eq_of_lt h10];rfl
  ·refine .inr ⟨?_,fun e=>by omega⟩
   rw[h1,Jn (by omega)];simp
theorem zK.done {n y:Nat} {acc:List UInt8} (h:zK n y acc) (h1:¬0<y) (h2:¬acc.length<1):decDigits n=acc:=by
 rcases h with ⟨_,_,h3⟩ | ⟨_,h4⟩
 ·exact h3
 ·rw[h4 (by omega)] at h2;simp at h2
theorem zK.len {n y:Nat} {acc:List UInt8} (h:zK n y acc):acc.length≤(decDigits n).length:=by
 rcases h with ⟨_,_,h3⟩ | ⟨h3,_⟩
 ·rw[h3];exact Nat.le_refl _
 ·rw[h3,List.length_append];omega
theorem Yq {n:Nat} (h:n<10000000000000000000):(decDigits n).length≤19:=by
 rw[decDigits_length];exact Jx 18 n h
def kT (l:List UInt8) (w:World) (e:Ending) (w':World):Prop:=e = .returned (.string ⟨l.toArray⟩)∧Below w.heap.size w w'
theorem KE (c:UInt8) (l:List UInt8):(ByteArray.mk #[c])++(ByteArray.mk l.toArray)=⟨(c::l).toArray⟩:=by
 rw[ByteArray.mk_append_mk];congr 1
theorem Ys (n:Nat) (w:World) (hn:n≤9223372036854775807):
  Calls Tryz.prog 128 #[.int .i64 n,.int .i64 1] w (kT (decDigits n) w):=by
 have HL:=hid (Yq (n:=n) (by omega));go_enter Tryz.func128,Tryz.ntmps128
 go_wp2
 go_loopg [0,5] (n+1) (fun g y s wr=>∃(m:Nat) (acc:List UInt8),y = .int .i64 m∧s = .string ⟨acc.toArray⟩∧m≤n∧(g=m+1∨(g=0∧m=0∧1≤acc.length))∧Hid (zK n m acc)∧Below w.heap.size w wr)
 case atStart=>exact⟨n,[],rfl,rfl,Nat.le_refl _,.inl rfl,hid (.inr ⟨by simp,fun _=>rfl⟩),Below.refl _ _⟩
 case round=>
  obtain⟨m,acc,rfl,rfl,hm,hg,hd,hB⟩:=hrel;have hacc:acc.length≤19:=Nat.le_trans hd.out.len HL.out
  have hal:(ByteArray.mk acc.toArray).size=acc.length:=by simp[ByteArray.size]
  by_cases h0:0<m
  ·have h0':(0:Int)<(m:Int):=by omega
   have HS:=hid (hd.out.step (.inl h0));have hq:m/10<m:=Nat.div_lt_self h0 (by decide);have HT:=hid (UT (m%10) (Nat.mod_lt _ (by decide)));have hr9:m%10<10:=Nat.mod_lt _ (by decide);clear hd
   go_wp2
   go_roundg (m/10+1)
   case rel=>exact⟨m/10,_,by go_num,by rw[HT.out,KE],by omega,.inl rfl,HS,hB⟩
   case measure=>omega
  ·have hm0:m=0:=by omega
   subst hm0;by_cases h1:acc.length<1
   ·have hnil:acc=[]:=List.length_eq_zero_iff.1 (by omega)
    subst hnil;have HS:=hid (hd.out.step (.inr (by decide)));have hsz:(ByteArray.mk #[]).size=0:=rfl;clear hd
    go_wp2
    go_roundg 0
    case rel=>exact⟨0,_,rfl,rfl,by omega,.inr ⟨rfl,rfl,by decide⟩,HS,hB⟩
    case measure=>rcases hg with hg | hg <;> simp_all
   ·have HE:=hid (hd.out.done (by omega) h1)
    have h1':¬((acc.length:Int)<1):=by omega
    clear hd
    go_wp2
    go_ret;exact⟨by rw[HE.out];rfl,hB⟩
def JS (n y:Nat) (acc:List UInt8):Prop:=acc.length≤9∧qK 9 n=qK (9-acc.length) y++acc∧y<10^(9-acc.length)
theorem JS.step {n y:Nat} {acc:List UInt8} (h:JS n y acc) (hc:acc.length<9):JS n (y/10) (UInt8.ofNat (48+y%10)::acc):=by
 obtain⟨h1,h2,h3⟩:=h
 obtain⟨j,hj⟩:∃j,9-acc.length=j+1:=⟨8-acc.length,by omega⟩
 rw[hj] at h2 h3;refine⟨by simp;omega,?_,?_⟩
 ·rw[h2,show 9-(UInt8.ofNat (48+y%10)::acc).length=j from by simp;omega,qK];simp
 ·rw[show 9-(UInt8.ofNat (48+y%10)::acc).length=j from by simp;omega]
  rw[Nat.pow_succ] at h3;omega
theorem JS.done {n y:Nat} {acc:List UInt8} (h:JS n y acc) (hc:¬acc.length<9):qK 9 n=acc∧y=0:=by
 obtain⟨h1,h2,h3⟩:=h;rw[show 9-acc.length=0 from by omega] at h2 h3;exact⟨by rw[h2];rfl,by simpa using h3⟩
theorem SC (n:Nat) (w:World) (hn:n<1000000000):
  Calls Tryz.prog 128 #[.int .i64 n,.int .i64 9] w (kT (qK 9 n) w):=by
 go_enter Tryz.func128,Tryz.ntmps128
 go_wp2
 go_loopg [0,5] 9 (fun g y s wr=>∃(m:Nat) (acc:List UInt8),y = .int .i64 m∧s = .string ⟨acc.toArray⟩∧m≤n∧g+acc.length=9∧Hid (JS n m acc)∧Below w.heap.size w wr)
 case atStart=>exact⟨n,[],rfl,rfl,Nat.le_refl _,rfl,hid ⟨by simp,by simp,by simpa using hn⟩,Below.refl _ _⟩
 case round=>
  obtain⟨m,acc,rfl,rfl,hm,hg,hd,hB⟩:=hrel
  have hal:(ByteArray.mk acc.toArray).size=acc.length:=by simp[ByteArray.size]
  cases gk with
  | zero=>
   obtain⟨HE0,hm0⟩:=hd.out.done (by omega);have HE:=hid HE0;clear HE0
   have h1':¬((acc.length:Int)<9):=by omega
   subst hm0;clear hd
   go_wp2
   go_ret;exact⟨by rw[HE.out];rfl,hB⟩
  | succ gh=>
   have HS:=hid (hd.out.step (by omega));have HT:=hid (UT (m%10) (Nat.mod_lt _ (by decide)));have hr9:m%10<10:=Nat.mod_lt _ (by decide)
   have h1':((acc.length:Int)<9):=by omega
   clear hd;by_cases h0:0<m
   ·have h0':(0:Int)<(m:Int):=by omega
    go_wp2
    go_roundg gh
    case rel=>exact⟨m/10,_,by go_num,by rw[HT.out,KE],by omega,by simp;omega,HS,hB⟩
    case measure=>omega
   ·have hm0:m=0:=by omega
    subst hm0
    go_wp2
    go_roundg gh
    case rel=>exact⟨0,_,rfl,by rw[←KE];rfl,by omega,by simp;omega,HS,hB⟩
    case measure=>omega
theorem NH (a b:Nat) (w:World) (ha:a≤9223372036854775807) (hb:b≤9223372036854775807):
  Calls Tryz.prog 127 #[.int .i64 a,.int .i64 b] w (fun e w'=>e = .returned (.int .i64 (Nat.gcd a b:Nat))∧Below w.heap.size w w'):=by
 go_enter Tryz.func127,Tryz.ntmps127
 go_wp2
 go_loopg [0,1] b (fun g x y wr=>∃(p q:Nat),x = .int .i64 p∧y = .int .i64 q∧p≤9223372036854775807∧q≤9223372036854775807∧g=q∧Hid (Nat.gcd p q=Nat.gcd a b)∧Below w.heap.size w wr)
 case atStart=>exact⟨a,b,rfl,rfl,ha,hb,rfl,hid rfl,Below.refl _ _⟩
 case round=>
  obtain⟨p,q,rfl,rfl,hp,hq,rfl,hd,hB⟩:=hrel;by_cases h0:0<gk
  ·have h0':(0:Int)<(gk:Int):=by omega
   have hlt:p%gk<gk:=Nat.mod_lt _ h0;have HS:Hid (Nat.gcd gk (p%gk)=Nat.gcd a b):=hid (by rw[←hd.out,Nat.gcd_comm p gk,Nat.gcd_rec gk p,Nat.gcd_comm]);clear hd
   go_wp2_with (go_quiet (fail))
   go_roundg (p%gk)
   case rel=>exact⟨gk,p%gk,rfl,by go_num,hq,by omega,rfl,HS,below_drewN hB nq⟩
   case measure=>exact hlt
  ·have hm0:gk=0:=by omega
   subst hm0;have HE:Hid (Nat.gcd a b=p):=hid (by rw[←hd.out];simp);clear hd
   go_wp2
   go_ret;exact⟨by rw[HE.out];rfl,hB⟩
end Go.Proofs.YtneafcdfnhnpnaaGreatDoor
namespace Go.Proofs.YtneafcdfnhnpnaaGreatDoor
open Go.RowKit
def EI (a n r x f g:Int):Prop:=0≤x∧x<r∧r≤n∧Int.gcd r x=Int.gcd a n∧n∣(f*a-r)∧n∣(g*a-x) ∧
 (∃F G:Nat,((f = -(F:Int)∧g=(G:Int))∨(f=(F:Int)∧g = -(G:Int)))∧(G:Int)*r+F*x=n)
theorem EI.start (a n:Int) (hn:1≤n):EI a n n (a%n) 0 1:=by
 refine⟨Int.emod_nonneg _ (by omega),Int.emod_lt_of_pos _ (by omega),by omega,?_,?_,?_,0,1,.inl ⟨by simp,by simp⟩,by simp⟩
 ·rw[Int.emod_def,Int.gcd_sub_mul_left_right,Int.gcd_comm]
 ·simp
 ·rw[Int.one_mul];exact Int.dvd_self_sub_emod
theorem EI.step {a n r x f g:Int} (h:EI a n r x f g) (hx:x≠0):EI a n x (r-r/x*x) g (f-r/x*g):=by
 obtain⟨h0,h1,h2,h3,h4,h5,F,G,hs,hn⟩:=h
 have hm:r-r/x*x=r%x:=by rw[Int.emod_def,Int.mul_comm]
 have hq:0≤r/x:=Int.ediv_nonneg (by omega) h0;obtain⟨q,hq'⟩:=Int.eq_ofNat_of_zero_le hq;rw[hm];refine⟨Int.emod_nonneg _ hx,Int.emod_lt_of_pos _ (by omega),by omega,?_,h5,?_,G,F+q*G,?_,?_⟩
 ·rw[←hm,Int.gcd_sub_mul_right_right,Int.gcd_comm,h3]
 ·rw[←hm]
  have e:(f-r/x*g)*a-(r-r/x*x)=(f*a-r)-r/x*(g*a-x):=by
   simp only[Int.sub_mul,Int.mul_sub,Int.mul_assoc];omega
  rw[e];exact Int.dvd_sub h4 (Int.dvd_mul_of_dvd_right h5)
 ·rw[hq']
  rcases hs with ⟨rfl,rfl⟩ | ⟨rfl,rfl⟩
  ·right;refine⟨rfl,?_⟩;simp only[Int.natCast_add,Int.natCast_mul];omega
  ·left;refine⟨rfl,?_⟩;simp only[Int.natCast_add,Int.natCast_mul,Int.mul_neg];omega
 ·rw[←hm,hq']
  simp only[Int.natCast_add,Int.natCast_mul,Int.add_mul,Int.mul_sub];rw[←hn,Int.mul_assoc,Int.mul_left_comm (G:Int) q x];omega
theorem EI.bounds {a n r x f g:Int} (h:EI a n r x f g) (hx:x≠0):0≤r/x∧0≤r/x*x∧r/x*x≤n ∧ -n≤r/x*g∧r/x*g≤n ∧ -n≤f∧f≤n ∧ -n≤g∧g≤n:=by
 obtain⟨h0,h1,h2,h3,h4,h5,F,G,hs,hn⟩:=h;have hq:0≤r/x:=Int.ediv_nonneg (by omega) h0;have hqx:r/x*x≤r:=Int.ediv_mul_le r hx
 have hqr:r/x≤r:=by
  have:=Int.ediv_le_self (b:=x) (show (0:Int)≤r by omega);omega
 have hG:(G:Int)*(r/x)≤G*r:=Int.mul_le_mul_of_nonneg_left hqr (by omega);have hF0:(0:Int)≤F*x:=Int.mul_nonneg (by omega) h0;have hG0:(0:Int)≤G*(r/x):=Int.mul_nonneg (by omega) hq
 have hF1:(F:Int)≤F*x:=by have:=Int.mul_le_mul_of_nonneg_left (show (1:Int)≤x by omega) (show (0:Int)≤F by omega);omega
 have hG1:(G:Int)≤G*r:=by have:=Int.mul_le_mul_of_nonneg_left (show (1:Int)≤r by omega) (show (0:Int)≤G by omega);omega
 have hGr:(0:Int)≤G*r:=by omega
 rcases hs with ⟨rfl,rfl⟩ | ⟨rfl,rfl⟩
 ·rw[Int.mul_comm (r/x) (G:Int)]
  refine⟨hq,Int.mul_nonneg hq h0,?_,?_,?_,?_,?_,?_,?_⟩ <;> omega
 ·rw[Int.mul_neg,Int.mul_comm (r/x) (G:Int)]
  refine⟨hq,Int.mul_nonneg hq h0,?_,?_,?_,?_,?_,?_,?_⟩ <;> omega
theorem EI.last {a n r f g:Int} (h:EI a n r 0 f g):r=Int.gcd a n∧n∣(f*a-Int.gcd a n):=by
 obtain⟨h0,h1,h2,h3,h4,h5,h6⟩:=h
 have:r=Int.gcd a n:=by rw[←h3,Int.gcd_zero_right];omega
 rw[←this];exact⟨rfl,h4⟩
theorem D5 {a n f:Int} (h:n∣(f*a-(1:Nat))):n∣(f%n*a-1):=by
 rw[Int.emod_def,Int.sub_mul,Int.mul_assoc]
 have:f*a-n*(f/n*a)-1=(f*a-(1:Nat))-n*(f/n*a):=by omega
 rw[this];exact Int.dvd_sub h (Int.dvd_mul_right ..)
theorem VB (a n:Int) (w:World) (hn:1≤n) (hn2:n≤1000000000000000000):
  Calls Tryz.prog 133 #[.int .i64 a,.int .i64 n] w fun e w'=>(∃k,w'=w.drewN k) ∧
   ((Int.gcd a n=1 ∧ ∃x:Int,e = .returned (.tuple #[.int .i64 x,.bool true])∧0≤x∧x<n∧n∣(x*a-1)) ∨
    (Int.gcd a n≠1∧e = .returned (.tuple #[.int .i64 0,.bool false]))):=by
 have hst:=Lib.hid (EI.start a n hn);go_enter Tryz.func133,Tryz.ntmps133
 go_wp2_with (go_at_call 190;refine(Qi _ _ _ hn (by omega)).mono ?_;rintro e w' ⟨rfl,rfl⟩)
 go_loopw [6,7,8,9] (fun u v p q wr=>∃(r x f g:Int) (k:Nat),u = .int .i64 r∧v = .int .i64 x∧p = .int .i64 f∧q = .int .i64 g∧Hid (EI a n r x f g)∧wr=w.drewN k) (fun _ v _ _ _=>(intOf v).toNat)
 case atStart=>exact⟨n,a%n,0,1,0,rfl,rfl,rfl,rfl,hst,rfl⟩
 case round=>
  obtain⟨r,x,f,g,k,rfl,rfl,rfl,rfl,hE,rfl⟩:=hrel;have hx0:0≤x:=hE.out.1;have hrx:x<r:=hE.out.2.1;have hrn:r≤n:=hE.out.2.2.1;by_cases hx:x=0
  ·subst hx
   obtain⟨he,hd⟩:=hE.out.last;have He:=Lib.hid he;clear he;by_cases hr:r=1
   ·subst hr
    go_wp2_with (go_at_call 190;refine(Qi _ _ _ hn (by omega)).mono ?_;rintro e w' ⟨rfl,rfl⟩)
    go_ret2
    have h1:Int.gcd a n=1:=by have:=He.out;omega
    refine⟨⟨k,rfl⟩,.inl ⟨h1,f%n,rfl,Int.emod_nonneg _ (by omega),Int.emod_lt_of_pos _ (by omega),?_⟩⟩;rw[h1] at hd;exact D5 hd
   ·have hb:(r != 1)=true:=by simpa using hr
    go_wp2
    go_ret2;exact⟨⟨k,rfl⟩,.inr ⟨fun h1=>hr (by have:=He.out;omega),rfl⟩⟩
  ·have hb:(x != 0)=true:=by simpa using hx
   obtain⟨b1,b2,b3,b4,b5,b6,b7,b8,b9⟩:=hE.out.bounds hx
   go_wp2
   have hs:=hE.out.step hx;refine⟨⟨x,r-r/x*x,g,f-r/x*g,k,rfl,rfl,rfl,rfl,Lib.hid hs,rfl⟩,?_⟩;have:=hs.1;have:=hs.2.1;simp[intOf];omega
theorem Al {m d:Int} (hd:2≤d) (hle:m/d<d) (h:∀e:Int,2≤e→e<d→m%e≠0) (x:Int) (hx:2≤x) (hxm:x<m):m%x≠0:=by
 intro hz;by_cases hxd:x<d
 ·exact h x hx hxd hz
 ·obtain⟨q,hq⟩:=Int.dvd_of_emod_eq_zero hz
  have hq1:1<q:=by
   rcases Int.lt_or_le 1 q with h1 | h1
   ·exact h1
   ·have:=Int.mul_le_mul_of_nonneg_left h1 (show (0:Int)≤x by omega);omega
  have hqd:q<d:=by
   rcases Int.lt_or_le q d with h1 | h1
   ·exact h1
   ·have h2:d≤m/d:=by
     rw[Int.le_ediv_iff_mul_le (by omega)];have a1:=Int.mul_le_mul_of_nonneg_left h1 (show (0:Int)≤x by omega);have a2:=Int.mul_le_mul_of_nonneg_right (show d≤x by omega) (show (0:Int)≤d by omega);omega
    omega
  refine h q (by omega) hqd ?_;rw[hq];exact Int.mul_emod_left x q
def yt (m:Int):Prop:=2≤m ∧ ∀d:Int,2≤d→d<m→m%d≠0
def Bx (m:Int) (w:World) (e:Ending) (w':World):Prop:=∃b:Bool,e = .returned (.bool b)∧(b=true↔yt m)∧w=w'
theorem NT (m:Int) (w:World) (h1:0≤m) (h2:m≤999999999):
  Calls Tryz.prog 135 #[.int .i64 m] w (Bx m w):=by
 by_cases hm:m<2
 ·go_enter Tryz.func135,Tryz.ntmps135
  go_wp2
  go_ret;exact⟨false,rfl,by unfold yt;simp;omega,rfl⟩
 ·go_enter Tryz.func135,Tryz.ntmps135
  go_wp2
  go_loop [3] (fun u=>∃d:Int,u = .int .i64 d∧2≤d∧d≤m∧Hid (∀e:Int,2≤e→e<d→m%e≠0)) (fun u=>(m-intOf u).toNat)
  case atStart=>exact⟨2,rfl,by omega,by omega,Lib.hid (fun e h3 h4=>by omega)⟩
  case round=>
   obtain⟨d,rfl,h3,h4,h5⟩:=hrel;have hdd:=Int.mul_ediv_self_le (x:=m) (k:=d) (by omega);by_cases hle:d≤m/d
   ·have hdm:d<m:=by
     have:=Int.mul_le_mul_of_nonneg_left hle (show (0:Int)≤d by omega);have:=Int.mul_le_mul_of_nonneg_left h3 (show (0:Int)≤d by omega);omega
    by_cases hz:m%d=0
    ·have hb:(m%d==0)=true:=by simpa using hz
     have Hz:=Lib.hid hz;clear hz
     go_wp2
     go_ret;exact⟨false,rfl,by simp;intro hp;exact hp.2 d h3 hdm Hz.out,rfl⟩
    ·go_wp2
     refine⟨⟨d+1,rfl,by omega,by omega,Lib.hid fun e he1 he2=> ?_⟩,by simp[intOf];omega⟩;by_cases e=d
     ·subst e;exact hz
     ·exact h5.out e he1 (by omega)
   ·go_wp2
    go_ret;exact⟨true,rfl,by simp;exact⟨by omega,fun x hx hxm=>Al h3 (by omega) h5.out x hx hxm⟩,rfl⟩
def qe:List Int→Int
 | []=>0
 | x::r=>if x=0 then qe r else x
def je (xs:List Int):List Value:=xs.map fun x=>Value.int .i64 x
theorem Nn (v:Value) (xs:List Int) (w:World) (hv:Sl w 1 v (je xs)):
  Calls Tryz.prog 111 #[v] w fun e w'=>e = .returned (.int .i64 (qe xs))∧w=w':=by
 obtain⟨A,c,rfl,hc1,hc2⟩:=hv.form
 have hl:(je xs).length=xs.length:=by simp[je]
 rw[hl] at hc1 hv ⊢;go_enter Tryz.func111,Tryz.ntmps111
 go_wp2
 go_loop [4,7] (fun _ u=>∃k:Nat,u = .int .i64 k∧k≤xs.length∧Hid (qe (xs.drop k)=qe xs)) (fun _ u=>xs.length-(intOf u).toNat)
 case atStart=>exact⟨0,rfl,by omega,Lib.hid rfl⟩
 case round=>
  obtain⟨k,rfl,hk,hf⟩:=hrel;by_cases hlt:k<xs.length
  ·obtain⟨b,off,rfl,hb,hcell⟩:=hv.at_ (k:=k) (by omega)
   have hck:=hcell k (by omega);rw[je,List.getElem?_map,List.getElem?_eq_getElem hlt] at hck;simp only[Option.map_some] at hck;clear hcell hv;have hd:xs.drop k=xs[k]::xs.drop (k+1):=List.drop_eq_getElem_cons hlt;have Hd:=Lib.hid hd;clear hd;by_cases hz:xs[k]=0
   ·have hz':(xs[k] != 0)=false:=by simpa using hz
    have Hz:=Lib.hid hz;clear hz
    go_wp2
    refine⟨⟨k+1,by go_num,by omega,Lib.hid ?_⟩,by simp[intOf];omega⟩;rw[←hf.out,Hd.out];simp[qe,Hz.out]
   ·have hz':(xs[k] != 0)=true:=by simpa using hz
    go_wp2
    go_ret;refine⟨Jc ?_,rfl⟩;rw[←hf.out,Hd.out];simp[qe,hz]
  ·have:k=xs.length:=by omega
   subst this
   go_wp2
   go_ret;exact⟨Jc (by rw[←hf.out];simp[qe]),rfl⟩
def Nt (w:World) (v:Value) (x:Nat):Prop:=∃ws,jc ws=x∧jJ ws∧kn ws∧Sl w 1 v (jv ws)
section
variable {w w':World} {v:Value} {x:Nat}
theorem Nt.below (h:Nt w v x) (hb:Below w.heap.size w w'):Nt w' v x:=by
 obtain⟨ws,h1,h2,h3,h4⟩:=h;exact⟨ws,h1,h2,h3,h4.below hb⟩
theorem Nt.drewN (h:Nt w v x) (k:Nat):Nt (w.drewN k) v x:=h
theorem Nt.nil:Nt w (.slice none 0 0) 0:=⟨[],rfl,LD,rfl,Sl.nil⟩
theorem Nt.open_ (h:Nt w v x):∃ws A c,v = .slice A ws.length c∧jc ws=x∧jJ ws∧kn ws∧ws.length≤c∧c≤140737488355328∧Sl w 1 (.slice A ws.length c) (jv ws):=by
 obtain⟨ws,h1,h2,h3,h4⟩:=h;obtain⟨A,c,rfl,h5,h6⟩:=h4.form;rw[jy] at h5 h4 ⊢;exact⟨ws,A,c,rfl,h1,h2,h3,h5,h6,h4⟩
end
theorem Nt.of_trim {w:World} {A:Option Addr} {c:Nat} {ws:List Nat} (hok:jJ ws) (h:Sl w 1 (.slice A (jE ws).length c) (jv (jE ws))):Nt w (.slice A (jE ws).length c) (jc ws):=
 ⟨jE ws,LR ws,LO hok,XQ ws,h⟩
theorem zh (A:Option Addr) (n c:Nat) (ws:List Nat) (w:World) (hok:jJ ws) (hv:Sl w 1 (.slice A n c) (jv ws)):
  Calls Tryz.prog 195 #[.slice A n c] w fun e w'=>∃v,e = .returned v∧Nt w v (jc ws)∧w=w':=by
 have hn:n=ws.length:=by
  obtain⟨A',c',h,_⟩:=hv.form;rw[jy] at h;simp at h;exact h.2.1
 subst hn
 exact(ZN A c ws w hv).mono fun e w' ⟨h1,h2,h3⟩=>⟨_,h1,Nt.of_trim hok h2,h3⟩
theorem Jy (x:Nat) (w:World) (hx:x<18446744073709551616):
  Calls Tryz.prog 189 #[.int .u64 x] w fun e w'=>∃v,e = .returned v∧Nt w' v x∧Below w.heap.size w w':=by
 have hs:=Lib.hid (Sl.lit w 148 #[.int .u64 x] 1 rfl (by omega));go_enter Tryz.func189,Tryz.ntmps189
 go_wp2_with fail
 refine(ZN _ _ [x] _ hs.out).mono ?_;rintro e w' ⟨rfl,h,rfl⟩
 go_wp2
 go_ret;exact⟨_,rfl,(by have:=Nt.of_trim (Mo.2 hx) h;simpa [jc] using this),(Below.refl _ _).alloc (Nat.le_refl _) _⟩
theorem kU (v:Value) (x:Nat) (w:World) (h:Nt w v x):
  Calls Tryz.prog 139 #[v] w fun e w'=>e = .returned (.bool (decide (x=1)))∧w=w':=by
 obtain⟨ws,A,c,rfl,h1,h2,h3,hc1,hc2,hs⟩:=h.open_
 have hone:∀y,ws=[y]→x=y:=fun y hy=>by subst hy;simpa [jc] using h1.symm
 by_cases hl:ws.length=1
 ·obtain⟨y,rfl⟩:=List.length_eq_one_iff.1 hl
  have hxy:=hone y rfl;subst hxy;obtain⟨b,off,rfl,hb,hcell⟩:=hs.at_ (k:=0) (by simp[jv])
  have hck:w.cell? ⟨b,off,none⟩=some (Value.int .u64 (x:Int)):=by simpa [jv] using hcell 0 (by simp[jv])
  clear hcell hs h hone h1;by_cases hx:x=1
  ·subst hx
   go_enter Tryz.func139,Tryz.ntmps139
   go_wp2
   go_ret;exact⟨rfl,rfl⟩
  ·have hb2:((x:Int)==1)=false:=by simpa using (by omega:¬(x:Int)=1)
   have hd:=Lib.hid (decide_eq_false hx);go_enter Tryz.func139,Tryz.ntmps139
   go_wp2
   go_ret;exact⟨by rw[hd.out];rfl,rfl⟩
 ·have hx:¬x=1:=by
   intro hx;have h4:ws.length≤1:=Kr h3 (n:=1) (by rw[h1,hx];decide);have h5:ws=[]:=List.length_eq_zero_iff.1 (by omega);subst h5;simp[jc] at h1;omega
  have hb2:((ws.length:Int)==1)=false:=by simpa using (by omega:¬(ws.length:Int)=1)
  have hd:=Lib.hid (decide_eq_false hx);clear hs h hone;go_enter Tryz.func139,Tryz.ntmps139
  go_wp2
  go_ret;exact⟨by rw[hd.out];rfl,rfl⟩
theorem qY (v u:Value) (x y:Nat) (w:World) (h:Nt w v x) (h':Nt w u y):
  Calls Tryz.prog 220 #[v,u] w fun e w'=>e = .returned (.int .i64 (kp x y)) ∧ ∃n,w'=w.drewN n:=by
 obtain⟨ws,A,c,rfl,h1,h2,h3,hc1,hc2,hs⟩:=h.open_;obtain⟨us,B,d,rfl,g1,g2,g3,gc1,gc2,gs⟩:=h'.open_;subst h1 g1;by_cases hl:ws.length=us.length
 ·have hb:((ws.length:Int) != (us.length:Int))=false:=by rw[hl];simp
  have Hl:=Lib.hid hl;clear hl;go_enter Tryz.func220,Tryz.ntmps220
  go_wp2
  go_loopw [5] (fun i wr=>∃(k n:Nat),i = .int .i64 ((k:Int)-1)∧k≤ws.length∧Hid (ws.drop k=us.drop k)∧wr=w.drewN n) (fun i _=>(intOf i+1).toNat)
  case atStart=>exact⟨ws.length,0,rfl,by omega,Lib.hid (by simp[Hl.out]),rfl⟩
  case round=>
   obtain⟨k,n,rfl,hk,hd,rfl⟩:=hrel;by_cases hk0:k=0
   ·subst hk0
    have he:ws=us:=by simpa using hd.out
    have ho:kp (jc ws) (jc us)=0:=by rw[he];simp[kp]
    have Ho:=Lib.hid ho;clear he ho
    go_wp2
    go_ret;exact⟨by rw[Ho.out];rfl,n,rfl⟩
   ·obtain⟨j,rfl⟩:∃j,k=j+1:=⟨k-1,by omega⟩
    have hj2:j<us.length:=by have:=Hl.out;omega
    obtain⟨b,off,rfl,hbb,hcell⟩:=hs.at_ (k:=j) (by rw[jy];omega);obtain⟨b',off',rfl,hbb',hcell'⟩:=gs.at_ (k:=j) (by rw[jy];omega);have hck:=hcell j (by rw[jy];omega);have hck':=hcell' j (by rw[jy];omega);rw[ZQ ws j (by omega)] at hck;rw[ZQ us j (by omega)] at hck'
    have Hlt:=fun hlt=>Lib.hid (My h2 Hl.out j (by omega) hd.out hlt)
    have Hgt:=fun hlt=>Lib.hid (My g2 Hl.out.symm j (by omega) hd.out.symm hlt)
    have Hdj:Hid (ws[j]?.getD 0=us[j]?.getD 0→ws.drop j=us.drop j):=by
     apply Lib.hid;intro e;rw[List.drop_eq_getElem_cons (by omega:j<ws.length),List.drop_eq_getElem_cons hj2,hd.out]
     congr 1
     simpa [List.getElem?_eq_getElem (by omega:j<ws.length),List.getElem?_eq_getElem hj2] using e
    generalize ws[j]?.getD 0=p at *;generalize us[j]?.getD 0=q at *;clear hcell hcell' hs gs h h'
    have ej:((j+1:Nat):Int)-1=(j:Int):=by omega
    rw[ej];by_cases hpq:p=q
    ·subst hpq
     go_wp2
     go_quiet (fail)
     go_wp2
     refine⟨⟨j,n+nq,rfl,by omega,Lib.hid (Hdj.out trivial),by simp⟩,by simp[intOf]⟩
    ·have hne:((p:Int) != (q:Int))=true:=by simpa using (by omega:¬(p:Int)=q)
     have Ho:Hid (kp p q=kp (jc ws) (jc us)):=by
      apply Lib.hid;unfold kp;rcases Nat.lt_or_gt_of_ne hpq with hlt | hlt
      ·rw[if_pos hlt,if_pos (Hlt hlt).out]
      ·have:=(Hgt hlt).out
       rw[if_neg (by omega),if_pos hlt,if_neg (by omega),if_pos this]
     clear Hlt Hgt Hdj
     go_wp2
     go_quiet (fail)
     go_wp2
     have hck2:((w.drewN n).drewN nq).cell? ⟨b,off+j,none⟩=some (Value.int .u64 (p:Int)):=hck;have hck3:((w.drewN n).drewN nq).cell? ⟨b',off'+j,none⟩=some (Value.int .u64 (q:Int)):=hck'
     have Hw2:Hid (∃m,(w.drewN n).drewN nq=w.drewN m):=⟨n+nq,World.drewN_drewN _ _ _⟩
     clear hck hck';generalize (w.drewN n).drewN nq=w2 at *
     go_big_quiet ((go_at_call 245;exact BP (Sb _ _ _)))
     go_wp2
     go_ret;obtain⟨m,rfl⟩:=Hw2;exact⟨Jc Ho.out,m+nq,by simp⟩
 ·have hb:((ws.length:Int) != (us.length:Int))=true:=by simpa using (by omega:¬(ws.length:Int)=us.length)
  have Ho:Hid (kp ws.length us.length=kp (jc ws) (jc us)):=by
   apply Lib.hid;unfold kp;rcases Nat.lt_or_gt_of_ne hl with hlt | hlt
   ·rw[if_pos hlt,if_pos (Ku h2 g3 hlt)]
   ·have:=Ku g2 h3 hlt
    rw[if_neg (by omega),if_pos hlt,if_neg (by omega),if_pos this]
  go_enter Tryz.func220,Tryz.ntmps220
  go_wp2_with (go_at_call 244;refine(Sa _ _ _).mono ?_;rintro e w' ⟨rfl,rfl⟩)
  go_ret;exact⟨Jc Ho.out,0,rfl⟩
