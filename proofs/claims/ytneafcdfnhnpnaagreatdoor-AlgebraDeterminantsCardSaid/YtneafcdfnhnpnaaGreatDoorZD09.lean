/- Contracts: a number divided by a word; products. -/
import Derived.Test.YtneafcdfnhnpnaaGreatDoorZD06
set_option maxRecDepth 100000
set_option maxHeartbeats 4000000
namespace Go.Proofs.YtneafcdfnhnpnaaGreatDoor
open Go.RowKit
theorem KH (v:Value) (x b:Nat) (w:World) (h:Nt w v x) (hb0:0<b) (hbw:b<WB) (hf:jl x):
  Calls Tryz.prog 196 #[v,.int .u64 b] w fun e w'=>∃v,e = .returned (.tuple #[v,.int .u64 ((x%b:Nat):Int)])∧Nt w' v (x/b)∧Below w.heap.size w w':=by
 obtain⟨xs,A,c,rfl,h1,h2,h3,hc1,hc2,hs⟩:=h.open_;have hlen:=jl.len h3 h1 hf;have HD:=Lib.hid (jl.words h3 h1 hf);clear hf;subst h1;have hmk:=yf w xs.length (by omega);clear h;go_enter Tryz.func196,Tryz.ntmps196
 go_wp2
 go_loopw [5,6] (fun r i wr=>∃(k b0:Nat) (L:List Nat),i = .int .i64 ((k:Int)-1)∧r = .int .u64 b0∧k≤xs.length∧Hid (k=xs.length→b0=0)∧Hid (yq xs L b k b0)∧ja wr w.heap.size 148 (jv L)∧Below w.heap.size w wr) (fun _ i _=>(intOf i+1).toNat)
 case atStart=>exact⟨xs.length,0,_,rfl,rfl,by omega,Lib.hid (fun _=>rfl),Lib.hid (yq.start xs b hb0),ja.make _ _ _,(Below.refl _ _).alloc (Nat.le_refl _) _⟩
 case round=>
  obtain⟨k,r,L,rfl,rfl,hk,hZ,hI,hO,hB⟩:=hrel;have hLl:L.length=xs.length:=hI.out.1;have hrb:r<b:=hI.out.2.2.1;by_cases hk0:k=0
  ·subst hk0
   obtain⟨q1,q2⟩:=hI.out.last;have Q1:=Lib.hid q1;have Q2:=Lib.hid q2;clear q1 q2;have hok:=hI.out.2.1;have hsl:=Lib.hid (hO.sl xs.length (by rw[jy];omega) (by omega));clear hLl
   go_wp2_with (go_at_call 195;refine(zh _ _ _ _ _ hok hsl.out).mono ?_;rintro e w' ⟨v,rfl,hv,rfl⟩)
   go_ret2;refine⟨v,by rw[←Q2.out];rfl,?_,hB⟩;rw[←Q1.out];exact hv
  ·obtain⟨j,rfl⟩:∃j,k=j+1:=⟨k-1,by omega⟩
   rw[show ((j+1:Nat):Int)-1=(j:Int) from by omega];obtain⟨b0,off,rfl,hbb,hcell⟩:=hs.at_ (k:=j) (by rw[jy];omega)
   have Hz:Hid (r=0∨Jh):=Lib.hid (by
    rcases HD.out with h | h
    ·exact .inl (hZ.out (by omega))
    ·exact .inr h)
   clear hZ;have hck:=(hB.cell (p:=⟨b0,off+j,none⟩) hbb).trans ((hcell j (by rw[jy];omega)).trans (jM xs j (by omega)));have hck2:=(hO.cell j).trans (jM L j (by omega));have hfr:=hO.free j;have hwx:=j5 h2 j;have Hst:=Lib.hid (hI.out.step (by omega) hb0 (UY hrb hwx));have Hdm:=Lib.hid (Nat.div_add_mod (r*WB+xs[j]?.getD 0) b);have hrm:(r*WB+xs[j]?.getD 0)%b<b:=Nat.mod_lt _ hb0;generalize xs[j]?.getD 0=x at *;generalize L[j]?.getD 0=z at *;generalize (r*WB+x)/b=q at *;generalize (r*WB+x)%b=r' at *;have Hdiv:=Lib.hid (fun w=>Tk r x b q r' w Hz.out hrb hwx hbw (by rw[Nat.mul_comm q b];exact Hdm.out.symm) hrm)
   have hlj:j<xs.length:=by omega
   clear hcell hs hLl hwx Hdm hrm
   go_wp2_with (first | (go_at_call 234;refine(Hdiv.out _).mono ?_;rintro e w' ⟨rfl,nq,rfl⟩))
   refine⟨⟨j,r',_,by go_num,rfl,by omega,Lib.hid (fun h=>by omega),Hst,?_,?_⟩,by simp[intOf]⟩
   ·rw[←kG];exact(hO.drewN nq).put j _
   ·exact(below_drewN hB nq).setCell (by simp) _
end Go.Proofs.YtneafcdfnhnpnaaGreatDoor
namespace Go.Proofs.YtneafcdfnhnpnaaGreatDoor
open Go.RowKit Go.Lib
def xY (na:Bool) (x:Nat) (nb:Bool) (y:Nat):Bool×Nat:=
 if na=nb then (na,x+y) else if x=y then (false,0) else if y<x then (na,x-y) else (nb,y-x)
theorem AN {x y:Nat} (h:x=y):kp x y=0:=by unfold kp;rw[if_neg (by omega),if_neg (by omega)]
theorem AO {x y:Nat} (h:y<x):kp x y=1:=by unfold kp;rw[if_neg (by omega),if_pos h]
theorem AQ {x y:Nat} (h:x<y):kp x y = -1:=by unfold kp;rw[if_pos h]
def G4 (r:Bool×Nat) (w:World) (e:Ending) (w':World):Prop:=∃v,e = .returned (.tuple #[.bool r.1,v])∧Nt w' v r.2∧Below w.heap.size w w'
theorem FD (na nb:Bool) (v u:Value) (x y:Nat) (w:World) (h:Nt w v x) (h':Nt w u y) (f1:jl x) (f2:jl y):
  Calls Tryz.prog 177 #[.bool na,v,.bool nb,u] w (G4 (xY na x nb y) w):=by
 have HS:=hid (rfl:xY na x nb y=xY na x nb y)
 conv at HS=>rhs;rhs;unfold xY
 generalize xY na x nb y=r at *;by_cases he:na=nb
 ·have HS':=hid (HS.out.trans (if_pos he))
  clear HS
  have hb:(na==nb)=true:=by simp[he]
  clear he;go_enter Tryz.func177,Tryz.ntmps177
  go_wp2_with (go_at_call 228;refine(Bl v u x y _ h h' f1 f2).mono ?_;rintro e w2 ⟨s,rfl,hs,hB⟩)
  go_ret2;exact⟨s,by rw[HS'.out];rfl,by rw[HS'.out];exact hs,hB⟩
 ·have HS1:=hid (HS.out.trans (if_neg he))
  have hb:(na==nb)=false:=by simpa using he
  clear HS he;by_cases hxy:x=y
  ·have HS2:=hid (HS1.out.trans (if_pos hxy))
   have Ho:=hid (AN hxy);clear HS1 hxy;go_enter Tryz.func177,Tryz.ntmps177
   go_wp2_with (go_at_call 220;refine(qY v u x y _ h h').mono ?_;rintro e w2 ⟨rfl,n,rfl⟩;rw[Ho.out])
   go_ret2;exact⟨_,by rw[HS2.out];rfl,by rw[HS2.out];exact Nt.nil,below_drewN (Below.refl _ _) n⟩
  ·have HS2:=hid (HS1.out.trans (if_neg hxy))
   clear HS1;by_cases hlt:y<x
   ·have HS3:=hid (HS2.out.trans (if_pos hlt))
    have Ho:=hid (AO hlt);have Hl:=hid (Nat.le_of_lt hlt);clear HS2 hxy hlt;go_enter Tryz.func177,Tryz.ntmps177
    go_wp2_with (first
     | (go_at_call 220;refine(qY v u x y _ h h').mono ?_;rintro e w2 ⟨rfl,n,rfl⟩;rw[Ho.out])
     | (go_at_call 229;refine(VZ v u x y _ (h.drewN n) (h'.drewN n) Hl.out f1).mono ?_;rintro e w3 ⟨s,rfl,hs,hB⟩))
    go_ret2;exact⟨s,by rw[HS3.out];rfl,by rw[HS3.out];exact hs,(below_drewN (Below.refl _ w) n).trans hB⟩
   ·have HS3:=hid (HS2.out.trans (if_neg hlt))
    have Ho:=hid (AQ (show x<y by omega));have Hl:=hid (show x≤y by omega);clear HS2 hxy hlt;go_enter Tryz.func177,Tryz.ntmps177
    go_wp2_with (first
     | (go_at_call 220;refine(qY v u x y _ h h').mono ?_;rintro e w2 ⟨rfl,n,rfl⟩;rw[Ho.out])
     | (go_at_call 229;refine(VZ u v y x _ (h'.drewN n) (h.drewN n) Hl.out f2).mono ?_;rintro e w3 ⟨s,rfl,hs,hB⟩))
    go_ret2;exact⟨s,by rw[HS3.out];rfl,by rw[HS3.out];exact hs,(below_drewN (Below.refl _ w) n).trans hB⟩
end Go.Proofs.YtneafcdfnhnpnaaGreatDoor
namespace Go.Proofs.YtneafcdfnhnpnaaGreatDoor
open Go.RowKit
theorem H6 (v:Value) (x f a:Nat) (w:World) (h:Nt w v x) (hfw:f<WB) (haw:a<WB) (hf:jl x):
  Calls Tryz.prog 138 #[v,.int .u64 f,.int .u64 a] w fun e w'=>∃v,e = .returned v∧Nt w' v (x*f+a)∧Below w.heap.size w w':=by
 obtain⟨xs,A,c,rfl,h1,h2,h3,hc1,hc2,hs⟩:=h.open_;have hlen:=jl.len h3 h1 hf;subst h1;have hmk:=yf w (xs.length+1) (by omega);rw[show ((xs.length+1:Nat):Int)=(xs.length:Int)+1 from by omega] at hmk;have hstart:=Lib.hid (xS.start xs f a haw);have hown:=ja.make w 148 (jv (List.replicate (xs.length+1) 0));have hown2:=hown.put 0 (.int .u64 (a:Int));rw[kG] at hown2;have hck2:=(hown.cell 0).trans (jM _ 0 (by simp));have hfr:=hown.free 0;rw[show (List.replicate (xs.length+1) 0)[0]?.getD 0=0 from by simp] at hck2
 obtain⟨w1,hw1⟩:∃w1,w1=w.alloc (.cells (jv (List.replicate (xs.length+1) 0)).toArray 148):=⟨_,rfl⟩
 rw[←hw1] at hmk hown hown2 hck2 hfr
 have hB1:Below w.heap.size w w1:=by rw[hw1];exact(Below.refl _ _).alloc (Nat.le_refl _) _
 clear h hw1;go_enter Tryz.func138,Tryz.ntmps138
 go_wp2
 go_loopw [8,9,10,11,12,22] (fun _ _ _ _ _ i wr=>∃(k:Nat) (L:List Nat),i = .int .i64 k∧k≤xs.length∧Hid (xS xs L f a k)∧ja wr w.heap.size 148 (jv L)∧Below w.heap.size w wr) (fun _ _ _ _ _ i _=>xs.length-(intOf i).toNat)
 case atStart=>exact⟨0,_,rfl,by omega,hstart,hown2,hB1.setCell (by simp) _⟩
 case round=>
  clear hown hown2 hck2 hfr;obtain⟨k,L,rfl,hk,hI,hO,hB⟩:=hrel;have hLl:L.length=xs.length+1:=hI.out.1;by_cases hlt:k<xs.length
  ·obtain⟨b0,off,rfl,hbb,hcell⟩:=hs.at_ (k:=k) (by rw[jy];omega)
   have hck:=(hB.cell (p:=⟨b0,off+k,none⟩) hbb).trans ((hcell k (by rw[jy];omega)).trans (jM xs k (by omega)));have hck2:=(hO.cell k).trans (jM L k (by omega));have hck3:=(hO.cell (k+1)).trans (jM L (k+1) (by omega));have hfr:=hO.free k;have hfr3:=hO.free (k+1);have hwx:=j5 h2 k;have hwz:=j5 hI.out.2.1 k;obtain⟨m1,m2,m3,m4⟩:=V7 _ f hwx hfw
   have Hst:=fun d c hi lo a1 a2 a3 a4=>Lib.hid (xS.step hI.out (d:=d) (c:=c) (hi:=hi) (lo:=lo) (by omega) a1 a2 a3 a4)
   have hm4:=m4 _ hwz;generalize xs[k]?.getD 0=x at *;generalize L[k]?.getD 0=z at *;generalize L[k+1]?.getD 0=z1 at *;generalize hhi:x*f/WB=hi at *;generalize hlo:x*f%WB=lo at *;obtain⟨d,cr,e1,e2,a1,a2,a3⟩:=JV z lo hwz m3;have Hm2:=Lib.hid m2.symm
   have hbd:(hi:Int)+cr≤18446744073709551615:=by
    have:(z+lo)/WB=cr:=by unfold WB at *;omega
    unfold WB at *;omega
   have Hs2:=Hst d cr hi lo a1 (by unfold WB;omega) m2.symm a3
   have Hmul:=fun w=>K1 x f hi lo w hwx hfw Hm2.out m3
   have Hadd:=fun w=>Kz (z:Int) (lo:Int) (by omega) (by unfold WB at hwz;omega) (by omega) (by unfold WB at m3;omega) w
   rw[e1,e2] at Hadd;have HMul:=Lib.hid Hmul;clear Hmul hcell hs hLl m1 m2 m4 hm4 Hst hhi hlo hwx hwz m3 a3 a1 e1 e2
   go_wp2_with (first | (go_at_call 193;refine(HMul.out _).mono ?_;rintro e w' ⟨rfl,rfl⟩))
   refine⟨⟨k+1,_,by go_num,by omega,Hs2,?_,(hB.setCell (by simp) _).setCell (by simp) _⟩,by simp[intOf];omega⟩;have:=(hO.put k (.int .u64 (d:Int))).put (k+1) (.int .u64 ((hi+cr:Nat):Int));rw[kG,kG] at this;simpa using this
  ·have hkk:k=xs.length:=by omega
   subst hkk;have hval:=Lib.hid hI.out.last;have hok:=hI.out.2.1;have hsl:=Lib.hid (hO.sl (xs.length+1) (by rw[jy];omega) (by omega));clear hLl
   go_wp2_with (go_at_call 195;refine(zh _ _ _ _ _ hok hsl.out).mono ?_;rintro e w' ⟨v,rfl,hv,rfl⟩)
   go_ret;refine⟨v,rfl,?_,hB⟩;rw[←hval.out];exact hv
def EP (bs L0:List Nat) (f off g:Nat) (w:World) (e:Ending) (w':World):Prop:=
 ∃(c:Nat) (L:List Nat),e = .returned (.int .u64 c)∧zj bs L0 L f off bs.length c∧ja w' g 148 (jv L)∧Below g w w'
theorem EH (u:Value) (bs L0:List Nat) (f off g n c:Nat) (w w0:World) (hfw:f<WB) (hO:ja w g 148 (jv L0)) (hok:jJ L0) (hn:n=bs.length) (hlen:off+bs.length≤L0.length)
  (hbok:jJ bs) (gs:Sl w0 1 u (jv bs)) (hB0:Below w0.heap.size w0 w) (hg:w0.heap.size≤g):
  Calls Tryz.prog 230 #[.slice (some ⟨g,off,none⟩) n c,u,.int .u64 f] w (EP bs L0 f off g w):=by
 obtain⟨B,d,rfl,gc1,gc2⟩:=gs.form;rw[jy] at gc1 gs ⊢;subst hn;have hst:=Lib.hid (zj.start (bs:=bs) f off hok);go_enter Tryz.func230,Tryz.ntmps230
 go_wp2
 go_loopw [6,7,8,9,10,11,14] (fun cr _ _ _ _ _ i wr=>∃(k c:Nat) (L:List Nat),i = .int .i64 k∧cr = .int .u64 c∧k≤bs.length∧Hid (zj bs L0 L f off k c)∧ja wr g 148 (jv L)∧Below g w wr) (fun _ _ _ _ _ _ i _=>bs.length-(intOf i).toNat)
 case atStart=>exact⟨0,0,L0,rfl,rfl,by omega,hst,hO,Below.refl _ _⟩
 case round=>
  clear hO;obtain⟨k,c,L,rfl,rfl,hk,hI,hO,hB⟩:=hrel;have hLl:L.length=L0.length:=hI.out.1;have hcw:c<WB:=hI.out.2.2.2.1;by_cases hlt:k<bs.length
  ·obtain⟨b1,off1,rfl,hbb1,hcell1⟩:=gs.at_ (k:=k) (by rw[jy];omega)
   have hck1:=(hB.cell (p:=⟨b1,off1+k,none⟩) (Nat.lt_of_lt_of_le hbb1 hg)).trans ((hB0.cell (p:=⟨b1,off1+k,none⟩) hbb1).trans ((hcell1 k (by rw[jy];omega)).trans (jM bs k (by omega))));have hck2:=(hO.cell (off+k)).trans (jM L (off+k) (by omega));have hfr:=hO.free (off+k);have hwx:=j5 hbok k;have hwz:=j5 hI.out.2.1 (off+k)
   have Hst:=fun d c' a1 a2 a3=>Lib.hid (hI.out.step (d:=d) (c':=c') (by omega) hlen a1 a2 a3)
   generalize bs[k]?.getD 0=x at *;generalize L[off+k]?.getD 0=z at *;obtain⟨hi,lo,l1,o1,d,o2,m1,m2,m3,m4,m5,m6,m7,m8,m9,m10,m11⟩:=ER x f c z hwx hfw hcw hwz;have Hs2:=Hst d (hi+o1+o2) m8 m10 m11;have HMul:=Lib.hid (fun w=>K1 x f hi lo w hwx hfw m1 m2)
   have ha1:∀w,(callFunc 194 #[.int .u64 (lo:Int),.int .u64 (c:Int),.int .u64 0]).run Tryz.prog w = .ok (.value (.tuple #[.int .u64 (l1:Int),.int .u64 (o1:Int)])) w:=by
    intro w;have:=Kz (lo:Int) (c:Int) (by omega) (by unfold WB at m2;omega) (by omega) (by unfold WB at hcw;omega) w;rw[show ((lo:Int)+c)%18446744073709551616=l1 from by unfold WB at *;omega,show ((lo:Int)+c)/18446744073709551616=o1 from by unfold WB at *;omega] at this;exact this
   have ha2:∀w,(callFunc 194 #[.int .u64 (z:Int),.int .u64 (l1:Int),.int .u64 0]).run Tryz.prog w = .ok (.value (.tuple #[.int .u64 (d:Int),.int .u64 (o2:Int)])) w:=by
    intro w;have:=Kz (z:Int) (l1:Int) (by omega) (by unfold WB at hwz;omega) (by omega) (by unfold WB at m4;omega) w;rw[show ((z:Int)+l1)%18446744073709551616=d from by unfold WB at *;omega,show ((z:Int)+l1)/18446744073709551616=o2 from by unfold WB at *;omega] at this;exact this
   have hb1:(hi:Int)+o1≤18446744073709551615:=by unfold WB at *;omega
   have hb2:(hi:Int)+o1+o2≤18446744073709551615:=by unfold WB at *;omega
   clear hcell1 gs hLl m1 m2 m3 m4 m5 m6 m7 m8 m9 m10 m11 Hst hwx hwz hcw;have Ha1:=Lib.hid ha1;have Ha2:=Lib.hid ha2;clear ha1 ha2
   go_wp2_with (first | (go_at_call 193;refine(HMul.out _).mono ?_;rintro e w' ⟨rfl,rfl⟩) | (simp only[Ha1.out]) | (simp only[Ha2.out]))
   refine⟨⟨k+1,hi+o1+o2,_,by go_num,by simp,by omega,Hs2,?_,hB.setCell (by simp) _⟩,by simp[intOf];omega⟩;rw[←kG];exact hO.put (off+k) _
  ·have hkk:k=bs.length:=by omega
   subst hkk;have HI:=hI.out;have HH:=Lib.hid HI;clear HI
   go_wp2
   go_ret;exact⟨c,L,rfl,HH.out,hO,hB⟩
theorem Qn (v u:Value) (x y:Nat) (w:World) (h:Nt w v x) (h':Nt w u y) (hf:jl x) (hg:jl y):
  Calls Tryz.prog 178 #[v,u] w fun e w'=>∃v,e = .returned v∧Nt w' v (x*y)∧Below w.heap.size w w':=by
 by_cases hx1:x=1
 ·subst hx1
  rw[Nat.one_mul];obtain⟨ws,A,c,hv,_⟩:=h.open_;obtain⟨us,B,d,hu,_⟩:=h'.open_;have Hh:=Lib.hid h;clear h;have Hh':=Lib.hid h';clear h';subst hv hu;go_enter Tryz.func178,Tryz.ntmps178
  go_wp2_with (first | (go_at_call 139;refine(kU _ _ _ Hh.out).mono ?_;rintro e w' ⟨rfl,rfl⟩))
  go_ret;exact⟨_,rfl,Hh'.out,Below.refl _ _⟩
 ·have hd1:=Lib.hid (decide_eq_false hx1)
  by_cases hy1:y=1
  ·subst hy1
   rw[Nat.mul_one];obtain⟨ws,A,c,hv,_⟩:=h.open_;obtain⟨us,B,d,hu,_⟩:=h'.open_;have Hh:=Lib.hid h;clear h;have Hh':=Lib.hid h';clear h';subst hv hu;have hn:=Lib.hid hx1;clear hx1;go_enter Tryz.func178,Tryz.ntmps178
   go_wp2_with fail
   refine(kU _ _ _ Hh.out).mono ?_;rintro e w' ⟨rfl,rfl⟩;rw[hd1.out]
   go_wp2_with fail
   refine(kU _ _ _ Hh'.out).mono ?_;rintro e w' ⟨rfl,rfl⟩
   go_wp2
   go_ret;exact⟨_,rfl,Hh.out,Below.refl _ _⟩
  ·have hd2:=Lib.hid (decide_eq_false hy1)
   obtain⟨xs,A,c,rfl,h1,h2,h3,hc1,hc2,hs⟩:=h.open_;obtain⟨bs,B,d,rfl,g1,g2,g3,gc1,gc2,gs⟩:=h'.open_;have hlen:=jl.len h3 h1 hf;have glen:=jl.len g3 g1 hg;have Hh:=Lib.hid h;clear h;have Hh':=Lib.hid h';clear h';have hmk:=yf w (xs.length+bs.length) (by omega);rw[show ((xs.length+bs.length:Nat):Int)=(xs.length:Int)+bs.length from by omega] at hmk;clear hf hg hx1 hy1;have H1:=Lib.hid h1;clear h1;have G1:=Lib.hid g1;clear g1;go_enter Tryz.func178,Tryz.ntmps178
   go_wp2_with fail
   refine(kU _ _ _ Hh.out).mono ?_;rintro e w' ⟨rfl,rfl⟩;rw[hd1.out]
   go_wp2_with fail
   refine(kU _ _ _ Hh'.out).mono ?_;rintro e w' ⟨rfl,rfl⟩;rw[hd2.out]
   go_wp2
   go_loopw [6,7,22] (fun _ _ i wr=>∃(k:Nat) (L:List Nat),i = .int .i64 k∧k≤xs.length∧Hid (yX xs bs L k)∧ja wr w.heap.size 148 (jv L)∧Below w.heap.size w wr) (fun _ _ i _=>xs.length-(intOf i).toNat)
   case atStart=>exact⟨0,_,rfl,by omega,Lib.hid (yX.start xs bs),ja.make _ _ _,(Below.refl _ _).alloc (Nat.le_refl _) _⟩
   case round=>
    obtain⟨k,L,rfl,hk,hI,hO,hB⟩:=hrel;have hLl:L.length=xs.length+bs.length:=hI.out.1;by_cases hlt:k<xs.length
    ·obtain⟨b0,off,rfl,hbb,hcell⟩:=hs.at_ (k:=k) (by rw[jy];omega)
     have hck:=(hB.cell (p:=⟨b0,off+k,none⟩) hbb).trans ((hcell k (by rw[jy];omega)).trans (jM xs k (by omega)));have hwx:=j5 h2 k
     have HSt:=fun L' c=>Lib.hid (yX.step (L':=L') (c:=c) hI.out hlt)
     generalize hxk:xs[k]?.getD 0=x at *;clear hcell hxk
     have hkl:k+bs.length<L.length:=by omega
     have hok:=hI.out.2.1;clear hLl
     go_wp2_with fail
     refine(EH _ bs L x k w.heap.size _ _ wr w hwx hO hok rfl (by omega) g2 gs hB (Nat.le_refl _)).mono ?_;rintro e w1 ⟨cr,L',rfl,hA,hO',hB'⟩;have hl1:L'.length=L.length:=hA.1;have hck2:=(hO'.cell (k+bs.length)).trans (jM L' (k+bs.length) (by omega));generalize L'[k+bs.length]?.getD 0=z at *;have hfr:=hO'.free (k+bs.length);have Hs2:=(HSt L' cr).out hA;have HS2:=Lib.hid Hs2;clear hA Hs2 hl1 hkl
     go_wp2
     refine⟨⟨k+1,_,by go_num,by omega,HS2,?_,(hB.trans hB').setCell (by simp) _⟩,by simp[intOf];omega⟩;rw[←kG];exact hO'.put _ _
    ·have hkk:k=xs.length:=by omega
     subst hkk;have hval:=Lib.hid hI.out.last;have hok:=hI.out.2.1;have hsl:=Lib.hid (hO.sl (xs.length+bs.length) (by rw[jy];omega) (by omega));clear hLl
     go_wp2_with (go_at_call 195;refine(zh _ _ _ _ _ hok hsl.out).mono ?_;rintro e w' ⟨v,rfl,hv,rfl⟩)
     go_ret;refine⟨v,rfl,?_,hB⟩;rw[←H1.out,←G1.out,←hval.out];exact hv
def qR (x:Nat):Nat→Nat
 | 0=>x
 | k+1=>qR x k/(k+1)
def xe (x n:Nat):Nat→List Int
 | 0=>List.replicate n 0
 | k+1=>(xe x n k).set (n-1-k) ((qR x k%(k+1):Nat):Int)
theorem J3 (x n k:Nat):(xe x n k).length=n:=by
 induction k with
 | zero=>simp[xe]
 | succ k ih=>simp[xe,ih]
theorem Nd (x k:Nat):qR x k≤x:=by
 induction k with
 | zero=>exact Nat.le_refl _
 | succ k ih=>exact Nat.le_trans (Nat.div_le_self _ _) ih
theorem Nt.putI {w:World} {v:Value} {x g i:Nat} {t:TypeId} {L:List Int} (h:Nt w v x) (hO:ja w g t (je L)) (u:Value):Nt (w.setCell ⟨g,i,none⟩ u) v x:=by
 obtain⟨ws,h1,h2,h3,A,n,c,hv,h4,h5,h6,h7⟩:=h;refine⟨ws,h1,h2,h3,A,n,c,hv,h4,h5,h6,fun hn=> ?_⟩;obtain⟨b,off,hA,hb,hcell⟩:=h7 hn;refine⟨b,off,hA,by simpa using hb,fun j u hu=> ?_⟩;have hj:=hcell j u hu
 have hne:b≠g:=by
  rintro rfl;rw[hO.cell] at hj;obtain⟨z,_,hz⟩:=List.mem_map.1 (List.mem_of_getElem? hj);obtain⟨y,_,hy⟩:=List.mem_map.1 (List.mem_of_getElem? hu);rw[←hz] at hy;cases hy
 rw[World.cell?_setCell_other _ _ _ _ (by intro e;injection e with e1;exact hne e1.symm)];exact hj
def Nc (x n:Nat) (w:World) (e:Ending) (w':World):Prop:=
 ∃u v,e = .returned (.tuple #[u,v])∧Sl w' 1 u (je (xe x n n))∧Nt w' v (qR x n)∧Below w.heap.size w w'
theorem Nf (v:Value) (x n:Nat) (w:World) (h:Nt w v x) (hf:jl x) (hn:n≤256):
  Calls Tryz.prog 140 #[v,.int .i64 n] w (Nc x n w):=by
 have hmk:=fun W=>Jw W n (by omega)
 have HF:=Lib.hid (fun k=>jl.le hf (Nd x k));have h0:Nt (w.alloc (.cells (je (List.replicate n 0)).toArray 3)) v (qR x 0):=h.below ((Below.refl _ _).alloc (Nat.le_refl _) _);have hO0:=ja.make w 3 (je (List.replicate n 0));have hB0:=(Below.refl w.heap.size w).alloc (Nat.le_refl _) (.cells (je (List.replicate n 0)).toArray 3);have H0:=Lib.hid h0;clear h hf h0;go_enter Tryz.func140,Tryz.ntmps140
 go_wp2_with fail
 go_loopg [0,6,7] n (fun g u i _ wr=>∃(k:Nat),k+g=n∧i = .int .i64 ((n:Int)-1-k)∧Hid (Nt wr u (qR x k))∧ja wr w.heap.size 3 (je (xe x n k))∧Below w.heap.size w wr)
 case atStart=>exact⟨0,by omega,by go_num,H0,hO0,hB0⟩
 case round=>
  clear hO0 hB0 H0;obtain⟨k,hk,rfl,hN,hO,hB⟩:=hrel
  cases gk with
  | zero=>
   have hkn:k=n:=by omega
   have hsl:=Lib.hid (hO.sl n (by rw[kx,J3]) (by omega));rw[hkn] at hsl hN
   have hi:((n:Int)-1-(n:Int)) = -1:=by omega
   clear hk hO;subst hkn
   go_wp2
   go_ret2;exact⟨_,_,rfl,hsl.out,hN.out,hB⟩
  | succ g=>
   obtain⟨i,hi⟩:∃i:Nat,n=i+1+k:=⟨n-1-k,by omega⟩
   have hi2:((n:Int)-1-(k:Int))=i:=by omega
   rw[hi2]
   have hin:n-1-k=i:=by omega
   have hD:=Lib.hid (show xe x n (k+1)=(xe x n k).set (n-1-k) ((qR x k%(k+1):Nat):Int) from rfl);rw[hin] at hD
   have hsub:(n:Int)-i=(k:Int)+1:=by omega
   have hck:=(hO.cell i).trans (kA (xe x n k) i (by rw[J3];omega));have hfr:=hO.free i;have hmod:qR x k%(k+1)<256:=Nat.lt_of_lt_of_le (Nat.mod_lt _ (by omega)) (by omega)
   have hm2:qR x k%(k+1)<18446744073709551616:=by omega
   have hil:i<n:=by omega
   have hlo:i<256:=by omega
   have hk2:k<256:=by omega
   have hck':wr.cell? ⟨w.heap.size,i,none⟩=some (.int .i64 ((xe x n k)[i]?.getD 0)):=hck;have DW:=KH u0 _ (k+1) wr hN.out (by omega) (by unfold WB;omega) (HF.out k);rw[Int.natCast_succ] at DW;have DW:=Lib.hid DW;have Hk:Hid (k+(g+1)=n):=Lib.hid hk;generalize hz:(xe x n k)[i]?.getD 0=z at *;clear hi hi2 hin hk hck' hz;generalize hm:qR x k%(k+1)=d at *;clear hm
   go_wp2_with fail
   refine DW.out.mono ?_;rintro e w2 ⟨u,rfl,hNu,hB2⟩;have hO2:=hO.below hB2 hO.lt;have hc2:=(hB2.cell (p:=⟨w.heap.size,i,none⟩) hO.lt).trans hck;have hf2:=(hB2.frozen (p:=⟨w.heap.size,i,none⟩) hO.lt).trans hfr;have hB':=hB.trans (hB2.mono hB.size);have HN2:Hid (Nt w2 u (qR x (k+1))):=Lib.hid hNu;clear hO hB hB2 hck hfr hN hNu
   go_wp2
   go_roundg g
   case rel=>exact⟨k+1,by have:=Hk.out;omega,by congr 1;omega,Lib.hid (HN2.out.putI hO2 _),by rw[hD.out,←xK];exact hO2.put _ _,hB'.setCell (by simp) _⟩
   case measure=>omega
theorem z8 {x y:Nat} (h:x<y):kp x y = -1:=by unfold kp;rw[if_pos h]
theorem Jz {x y:Nat} (h:y≤x):0≤kp x y:=by unfold kp;rw[if_neg (by omega)];split <;> omega
theorem Nt.one_word {w:World} {v:Value} {y:Nat} (h:Nt w v y) (h0:0<y) (hw:y<WB):
  ∃b off c,v = .slice (some ⟨b,off,none⟩) 1 c∧b<w.heap.size∧w.cell? ⟨b,off,none⟩=some (.int .u64 (y:Int)):=by
 obtain⟨ws,A,c,rfl,h1,h2,h3,hc1,hc2,hs⟩:=h.open_;have hl:ws.length≤1:=Kr h3 (n:=1) (by rw[h1,Nat.pow_one];exact hw)
 have hne:ws≠[]:=by rintro rfl;simp[jc] at h1;omega
 have hl1:ws.length=1:=by have:=List.length_pos_iff.2 hne;omega
 obtain⟨z,rfl⟩:=List.length_eq_one_iff.1 hl1
 have hz:z=y:=by simpa [jc] using h1
 subst hz;obtain⟨b,off,rfl,hb,hcell⟩:=hs.at_ (k:=0) (by simp[jv]);exact⟨b,off,c,by simp,hb,by simpa [jv] using hcell 0 (by simp[jv])⟩
theorem Nt.zero_len {w:World} {v:Value} (h:Nt w v 0):∃A c,v = .slice A 0 c:=by
 obtain⟨ws,A,c,rfl,h1,h2,h3,hc1,hc2,hs⟩:=h.open_;have:ws=[]:=(LC h3).1 h1;subst this;exact⟨A,c,rfl⟩
theorem Nt.len_ge {w:World} {v:Value} {y:Nat} (h:Nt w v y) (hw:WB≤y):∃A n c,v = .slice A n c∧2≤n∧n≤140737488355328:=by
 obtain⟨ws,A,c,rfl,h1,h2,h3,hc1,hc2,hs⟩:=h.open_;refine⟨A,ws.length,c,rfl,?_,by omega⟩;rcases Nat.lt_or_ge ws.length 2 with hl | hl
 ·have:=qT h2
  have h4:WB^ws.length≤WB^1:=Nat.pow_le_pow_right (by decide) (by omega);rw[Nat.pow_one] at h4;omega
 ·exact hl
theorem Nt.size_ {w:World} {v:Value} {y:Nat} (h:Nt w v y):∃A n c,v = .slice A n c∧n≤140737488355328:=by
 obtain⟨ws,A,c,rfl,h1,h2,h3,hc1,hc2,hs⟩:=h.open_;exact⟨A,ws.length,c,rfl,by omega⟩
def QU (x y:Nat) (w:World) (e:Ending) (w':World):Prop:=∃q r,e = .returned (.tuple #[q,r])∧Nt w' q (x/y)∧Nt w' r (x%y)∧Below w.heap.size w w'
theorem Tx (v u:Value) (x y:Nat) (w:World) (h:Nt w v x) (h':Nt w u y) (hy:0<y) (hf:jl x):
  Calls Tryz.prog 223 #[v,u] w (QU x y w):=by
 by_cases hlt:x<y
 ·have ho:=Lib.hid (z8 hlt)
  have hq:x/y=0:=Nat.div_eq_of_lt hlt;have hm:x%y=x:=Nat.mod_eq_of_lt hlt;unfold QU;rw[hq,hm];clear hq hm;obtain⟨A,n,c,hv,_⟩:=h.size_;obtain⟨B,m,d,hu,_⟩:=h'.size_;have Hh:=Lib.hid h;clear h;have Hh':=Lib.hid h';clear h';subst hv hu;go_enter Tryz.func223,Tryz.ntmps223
  go_wp2_with (first | (go_at_call 220;refine(qY _ _ _ _ _ Hh.out Hh'.out).mono ?_;rintro e w' ⟨rfl,n,rfl⟩;rw[ho.out]))
  go_ret2;exact⟨_,_,rfl,Nt.nil,Hh.out.drewN _,below_drewN (Below.refl _ _) _⟩
 ·have ho:=Jz (Nat.not_lt.1 hlt)
  by_cases hw:y<WB
  ·obtain⟨A,n,c,hv,_⟩:=h.size_
   obtain⟨b,off,d,hu,hb,hcell⟩:=h'.one_word hy hw;have Hh:=Lib.hid h;clear h;have Hh':=Lib.hid h';clear h';subst hv hu;go_enter Tryz.func223,Tryz.ntmps223
   go_wp2_with fail
   refine(qY _ _ _ _ _ Hh.out Hh'.out).mono ?_;rintro e w' ⟨rfl,n,rfl⟩
   go_wp2_with fail
   refine(KH _ x y _ (Hh.out.drewN n) hy hw hf).mono ?_;rintro e w1 ⟨q,rfl,hq,hB⟩;have hmw:x%y<WB:=Nat.lt_of_lt_of_le (Nat.mod_lt _ hy) (Nat.le_of_lt hw)
   go_wp2_with fail
   refine(Jy (x%y) _ hmw).mono ?_;rintro e w2 ⟨r,rfl,hr,hB2⟩
   go_wp2
   go_ret2;exact⟨q,r,rfl,hq.below hB2,hr,(below_drewN (Below.refl _ w) n).trans (hB.trans (hB2.mono hB.size))⟩
  ·obtain⟨A,n,c,hv,_⟩:=h.size_
   obtain⟨B,m,d,hu,hm2,_⟩:=h'.len_ge (Nat.not_lt.1 hw);have Hh:=Lib.hid h;clear h;have Hh':=Lib.hid h';clear h';subst hv hu
   have hb:((m:Int)==1)=false:=by simpa using (by omega:¬(m:Int)=1)
   go_enter Tryz.func223,Tryz.ntmps223
   go_wp2_with fail
   refine(qY _ _ _ _ _ Hh.out Hh'.out).mono ?_;rintro e w' ⟨rfl,n,rfl⟩
   go_wp2_with fail
   refine((hf.deep (by omega)).long _ _ x y _ (Hh.out.drewN n) (Hh'.out.drewN n) (Nat.not_lt.1 hw) (Nat.not_lt.1 hlt) hf.big).mono ?_;rintro e w1 ⟨q,r,rfl,hq,hr,hB⟩
   go_wp2
   go_ret2;exact⟨q,r,rfl,hq,hr,(below_drewN (Below.refl _ w) n).trans hB⟩
theorem zU (v u:Value) (x y:Nat) (w:World) (h:Nt w v x) (h':Nt w u y) (hy:0<y) (hf:jl x):
  Calls Tryz.prog 176 #[v,u] w fun e w'=>∃v,e = .returned v∧Nt w' v (x/y)∧Below w.heap.size w w':=by
 obtain⟨A,n,c,hv,_⟩:=h.size_;obtain⟨B,m,d,hu,_⟩:=h'.size_;have Hh:=Lib.hid h;clear h;have Hh':=Lib.hid h';clear h';subst hv hu;by_cases h1:y=1
 ·subst h1
  rw[Nat.div_one];go_enter Tryz.func176,Tryz.ntmps176
  go_wp2_with (first | (go_at_call 139;refine(kU _ _ _ Hh'.out).mono ?_;rintro e w' ⟨rfl,rfl⟩))
  go_ret;exact⟨_,rfl,Hh.out,Below.refl _ _⟩
 ·have hd:=Lib.hid (decide_eq_false h1)
  go_enter Tryz.func176,Tryz.ntmps176
  go_wp2_with fail
  refine(kU _ _ _ Hh'.out).mono ?_;rintro e w' ⟨rfl,rfl⟩;rw[hd.out]
  go_wp2_with fail
  refine(Tx _ _ x y _ Hh.out Hh'.out hy hf).mono ?_;rintro e w1 ⟨q,r,rfl,hq,hr,hB⟩
  go_wp2
  go_ret;exact⟨q,rfl,hq,hB⟩
end Go.Proofs.YtneafcdfnhnpnaaGreatDoor
namespace Go.Proofs.YtneafcdfnhnpnaaGreatDoor
open Go.RowKit Go.Lib
theorem VY (num:Int) (den g:Nat) (h1:(g:Int)∣num) (h2:g∣den) (h3:den/g≠0) (h4:(num/g).natAbs.Coprime (den/g)):(Rat.maybeNormalize num den g h1 h2 h3 h4).num=num/g∧(Rat.maybeNormalize num den g h1 h2 h3 h4).den=den/g:=by
 unfold Rat.maybeNormalize;split
 ·rename_i h;subst h;simp
 ·simp
theorem EK (p q:Rat):(p+q).num=(p.num*((q.den/Nat.gcd p.den q.den:Nat):Int)+q.num*((p.den/Nat.gcd p.den q.den:Nat):Int))/((Nat.gcd (p.num*((q.den/Nat.gcd p.den q.den:Nat):Int)+q.num*((p.den/Nat.gcd p.den q.den:Nat):Int)).natAbs (Nat.gcd p.den q.den):Nat):Int)
  ∧ (p+q).den=(p.den/Nat.gcd p.den q.den)*(q.den/Nat.gcd (p.num*((q.den/Nat.gcd p.den q.den:Nat):Int)+q.num*((p.den/Nat.gcd p.den q.den:Nat):Int)).natAbs (Nat.gcd p.den q.den)):=by
 change (Rat.add p q).num=_∧(Rat.add p q).den=_;unfold Rat.add;dsimp only;have hgq:Nat.gcd p.den q.den∣q.den:=Nat.gcd_dvd_right _ _;split
 ·rename_i h1
  simp[h1]
 ·rename_i h1
  have hcg:=Nat.gcd_dvd_right (p.num*((q.den/Nat.gcd p.den q.den:Nat):Int)+q.num*((p.den/Nat.gcd p.den q.den:Nat):Int)).natAbs (Nat.gcd p.den q.den);have hcq:=Nat.dvd_trans hcg hgq;refine⟨(VY _ _ _ _ _ _ _).1,?_⟩;exact(VY _ _ _ _ _ _ _).2.trans (Nat.mul_div_assoc _ hcq)
theorem FZ (na nb:Bool) (x y:Nat):sg (xY na x nb y).1 (xY na x nb y).2=sg na x+sg nb y:=by
 unfold xY;by_cases h1:na=nb
 ·subst h1;rw[if_pos rfl];cases na <;> simp[sg] <;> omega
 ·rw[if_neg h1]
  by_cases h2:x=y
  ·rw[if_pos h2];cases na <;> cases nb <;> simp_all [sg] <;> omega
  ·rw[if_neg h2]
   by_cases h3:y<x
   ·rw[if_pos h3];cases na <;> cases nb <;> simp_all [sg] <;> omega
   ·rw[if_neg h3];cases na <;> cases nb <;> simp_all [sg] <;> omega
theorem G5 (na nb:Bool) (x y:Nat):(xY na x nb y).2=(sg na x+sg nb y).natAbs:=by
 rw[←FZ];unfold sg;split <;> simp
theorem F2 (na nb:Bool) (x y:Nat) (hx:na=true→x≠0) (hy:nb=true→y≠0):(xY na x nb y).1=decide (sg na x+sg nb y<0):=by
 unfold xY;by_cases h1:na=nb
 ·subst h1;rw[if_pos rfl];cases na <;> simp_all [sg] <;> omega
 ·rw[if_neg h1]
  by_cases h2:x=y
  ·rw[if_pos h2];cases na <;> cases nb <;> simp_all [sg] <;> omega
  ·rw[if_neg h2]
   by_cases h3:y<x
   ·rw[if_pos h3];cases na <;> cases nb <;> simp_all [sg] <;> omega
   ·rw[if_neg h3];cases na <;> cases nb <;> simp_all [sg] <;> omega
def Rt (w:World) (v:Value) (q:Rat):Prop:=∃nv dv,v = .agg #[.bool (decide (q.num<0)),nv,dv]∧Nt w nv q.num.natAbs∧Nt w dv q.den
theorem Rt.below {w w':World} {v:Value} {q:Rat} (h:Rt w v q) (hb:Below w.heap.size w w'):Rt w' v q:=by
 obtain⟨nv,dv,hv,h1,h2⟩:=h;exact⟨nv,dv,hv,h1.below hb,h2.below hb⟩
def j4 (neg:Bool) (n d:Nat):Rat:=if neg then mkRat (-(n:Int)) d else mkRat n d
theorem J7 {n:Int} {d:Nat} (hd:d≠0) (hc:Nat.gcd n.natAbs d=1):(mkRat n d).num=n∧(mkRat n d).den=d:=by
 rw[←Rat.mk_eq_mkRat n d hd hc];exact⟨rfl,rfl⟩
theorem Rt.mk_ {w:World} {neg:Bool} {nv dv:Value} {n d:Nat} (hd:d≠0) (hc:Nat.gcd n d=1) (hn:neg=true→n≠0) (h1:Nt w nv n) (h2:Nt w dv d):
  Rt w (.agg #[.bool neg,nv,dv]) (j4 neg n d):=by
 unfold j4
 cases neg with
 | false=>
  obtain⟨e1,e2⟩:=J7 (n:=(n:Int)) hd (by simpa using hc);refine⟨nv,dv,?_,?_,?_⟩
  ·simp only[Bool.false_eq_true,if_false,e1]
   rw[show decide ((n:Int)<0)=false from by simp]
  ·simp only[Bool.false_eq_true,if_false,e1];simpa using h1
  ·simp only[Bool.false_eq_true,if_false,e2];exact h2
 | true=>
  obtain⟨e1,e2⟩:=J7 (n:=-(n:Int)) hd (by simpa using hc);have:=hn rfl;refine⟨nv,dv,?_,?_,?_⟩
  ·simp only[if_true,e1]
   rw[show decide (-(n:Int)<0)=true from by simp;omega]
  ·simp only[if_true,e1];simpa using h1
  ·simp only[if_true,e2];exact h2
theorem Rt.open_ {w:World} {v:Value} {q:Rat} (h:Rt w v q):∃neg nv dv n d,v = .agg #[.bool neg,nv,dv]∧Nt w nv n∧Nt w dv d∧d≠0∧Nat.gcd n d=1∧(neg=true→n≠0)∧q=j4 neg n d∧neg=decide (q.num<0)∧n=q.num.natAbs∧d=q.den:=by
 obtain⟨nv,dv,hv,h1,h2⟩:=h;refine⟨_,nv,dv,_,_,hv,h1,h2,q.den_nz,q.reduced,?_,?_,rfl,rfl,rfl⟩
 ·intro hn;have:=of_decide_eq_true hn;omega
 ·unfold j4
  by_cases hq:q.num<0
  ·rw[if_pos (by simpa using hq),show -(q.num.natAbs:Int)=q.num from by omega];exact(Rat.mkRat_self q).symm
  ·rw[if_neg (by simpa using hq),show (q.num.natAbs:Int)=q.num from by omega];exact(Rat.mkRat_self q).symm
theorem kY (l dg:List UInt8) (neg:Bool) (w:World) (h1:hasPrefix l [45]=neg) (h2:trimPrefix l [45]=dg):
  Calls Tryz.prog 168 #[.string ⟨l.toArray⟩,.string ⟨#[45]⟩] w fun e w'=>e = .returned (.tuple #[.string ⟨dg.toArray⟩,.bool neg])∧w=w':=by
 refine(Tryz.strings_CutPrefix ⟨l.toArray⟩ ⟨#[45]⟩ w).mono fun e w' ⟨h3,h4⟩=>⟨?_,h4.symm⟩
 rw[h3,←h1,←h2]
theorem kZ (l a b:List UInt8) (f:Bool) (w:World) (h:cut l [47]=(a,b,f)) (hl:l.length<4294967281) (hG:jN w):
  Calls Tryz.prog 169 #[.string ⟨l.toArray⟩,.string ⟨#[47]⟩] w fun e w'=>e = .returned (.tuple #[.string ⟨a.toArray⟩,.string ⟨b.toArray⟩,.bool f]) ∧ ∃n,w'=w.drewN n:=by
 obtain⟨_,m,_,hm⟩:=hG;have:=Tryz.strings_Cut ⟨l.toArray⟩ ⟨#[47]⟩ m w (by simpa [ByteArray.size] using hl) hm;simpa [h] using this
theorem ky (l:List UInt8) (w:World) (h:jD l) (hl:l.length<4294967281):
  Calls Tryz.prog 170 #[.string ⟨l.toArray⟩] w fun e w'=>e = .returned (.bool true)∧Below w.heap.size w w':=by
 refine(VE ⟨l.toArray⟩ w (by simp[ByteArray.size];omega)).mono ?_;rintro e w' ⟨b,rfl,hb,hB⟩;exact⟨by rw[hb.2 (by simpa using h)],hB⟩
theorem J5 (l:List UInt8) (w:World) (h:¬jD l) (hl:l.length<4294967281):
  Calls Tryz.prog 170 #[.string ⟨l.toArray⟩] w fun e w'=>e = .returned (.bool false)∧Below w.heap.size w w':=by
 refine(VE ⟨l.toArray⟩ w (by simp[ByteArray.size];omega)).mono ?_;rintro e w' ⟨b,rfl,hb,hB⟩;refine⟨?_,hB⟩
 cases b with
 | false=>rfl
 | true=>exact absurd (by simpa using hb.1 rfl) h
theorem ja.three {w:World} {g:Nat} {t:TypeId} {a b c:Value} (h:ja w g t [a,b,c]):
  w.cell? ⟨g,0,none⟩=some a∧w.cell? ⟨g,1,none⟩=some b∧w.cell? ⟨g,2,none⟩=some c∧w.frozen? ⟨g,0,none⟩=false∧w.frozen? ⟨g,1,none⟩=false∧w.frozen? ⟨g,2,none⟩=false:=
 ⟨h.cell 0,h.cell 1,h.cell 2,h.free 0,h.free 1,h.free 2⟩
def km (c:Value):Prop:=∀k n,c ≠ .int k n
theorem js (b:Bool):km (.bool b):=by intro k n h;cases h
theorem jq (A:Option Addr) (n c:Nat):km (.slice A n c):=by intro k n h;cases h
theorem Nt.noInt {w:World} {v:Value} {x:Nat} (h:Nt w v x):km v:=by
 obtain⟨A,n,c,rfl,_⟩:=h.size_;exact jq _ _ _
theorem Nt.put {w:World} {v:Value} {x g i:Nat} {t:TypeId} {cs:List Value} (h:Nt w v x) (hO:ja w g t cs) (hc:∀c∈cs,km c) (u:Value):Nt (w.setCell ⟨g,i,none⟩ u) v x:=by
 obtain⟨ws,h1,h2,h3,A,n,c,hv,h4,h5,h6,h7⟩:=h;refine⟨ws,h1,h2,h3,A,n,c,hv,h4,h5,h6,fun hn=> ?_⟩;obtain⟨b,off,hA,hb,hcell⟩:=h7 hn;refine⟨b,off,hA,by simpa using hb,fun j u hu=> ?_⟩;have hj:=hcell j u hu
 have hne:b≠g:=by
  rintro rfl;rw[hO.cell] at hj;have hm:=hc u (List.mem_of_getElem? hj);obtain⟨y,_,hy⟩:=List.mem_map.1 (List.mem_of_getElem? hu);exact hm _ _ hy.symm
 rw[World.cell?_setCell_other _ _ _ _ (by intro e;injection e with e1;exact hne e1.symm)];exact hj
theorem Nt.put3 {w:World} {v:Value} {x g:Nat} {t:TypeId} {a b c a' b' c':Value} (h:Nt w v x) (hO:ja w g t [a,b,c]) (ha:km a) (hb:km b) (hc:km c) (ha':km a') (hb':km b'):
  Nt (((w.setCell ⟨g,0,none⟩ a').setCell ⟨g,1,none⟩ b').setCell ⟨g,2,none⟩ c') v x:=by
 have h1:=h.put (i:=0) hO (by simp only[List.mem_cons,List.not_mem_nil,or_false];rintro c (rfl | rfl | rfl) <;> assumption) a';have hO1:=hO.put 0 a';have h2:=h1.put (i:=1) hO1 (by simp only[List.set,List.mem_cons,List.not_mem_nil,or_false];rintro c (rfl | rfl | rfl) <;> assumption) b';have hO2:=hO1.put 1 b';exact h2.put (i:=2) hO2 (by simp only[List.set,List.mem_cons,List.not_mem_nil,or_false];rintro c (rfl | rfl | rfl) <;> assumption) c'
theorem Rt.put3 {w:World} {v:Value} {q:Rat} {g:Nat} {t:TypeId} {a b c a' b' c':Value} (h:Rt w v q) (hO:ja w g t [a,b,c]) (ha:km a) (hb:km b) (hc:km c) (ha':km a') (hb':km b'):
  Rt (((w.setCell ⟨g,0,none⟩ a').setCell ⟨g,1,none⟩ b').setCell ⟨g,2,none⟩ c') v q:=by
 obtain⟨nv,dv,hv,h1,h2⟩:=h;exact⟨nv,dv,hv,h1.put3 hO ha hb hc ha' hb',h2.put3 hO ha hb hc ha' hb'⟩
theorem Nt.one (w:World) (t:TypeId):Nt (w.alloc (.cells #[.int .u64 1] t)) (.slice (some ⟨w.heap.size,0,none⟩) 1 1) 1:=
 ⟨[1],rfl,Mo.2 (by decide),rfl,Sl.lit w t #[.int .u64 1] 1 rfl (by omega)⟩
def j6:Value:= .agg #[.bool false,.slice none 0 0,.slice none 0 0]
theorem jl.digits {x:Nat} (h:jl x):nDigits x≤160000000000001:=by
 have:=Aa x y8 h.big;have:=Q7;omega
theorem J0:10000000000000000000<WB:=by decide
theorem Gg (c:Nat) (w:World) (hc:c≤19):
  Calls Tryz.prog 233 #[.string ⟨#[48]⟩,.int .i64 c] w fun e w'=>e = .returned (.string ⟨(List.replicate c 48).toArray⟩)∧Below w.heap.size w w':=by
 have h:=Tryz.strings_Repeat ⟨#[48]⟩ c w (by omega) (by show 1*c≤_;omega)
 refine h.mono fun e w' ⟨h1,h2⟩=>⟨?_,h2⟩
 rw[h1]
 show Ending.returned (.string ⟨(repeatL [48] c).toArray⟩)=_
 rw[CZ]
def QB (x y:Nat) (acc:List UInt8):Prop:=decDigits x=decDigits y++acc∧(y=0→acc=[])∧y≤x
theorem QB.step {x y:Nat} {acc:List UInt8} (h:QB x y acc) (hy:10000000000000000000≤y):
  QB x (y/10000000000000000000) (List.replicate (19-nDigits (y%10000000000000000000)) 48++decDigits (y%10000000000000000000)++acc):=by
 obtain⟨h1,h2,h3⟩:=h;obtain⟨d1,d2,d3⟩:=UN y hy;refine⟨by rw[h1,d1];simp,fun h=>by omega,?_⟩;exact Nat.le_trans (Nat.div_le_self _ _) h3
theorem H3 (v:Value) (x:Nat) (w:World) (h:Nt w v x) (hf:jl x) (hG:jN w):
  Calls Tryz.prog 188 #[v] w fun e w'=>e = .returned (.string ⟨(decDigits x).toArray⟩)∧Below w.heap.size w w':=by
 obtain⟨A0,n0,c0,hv,hn0⟩:=h.size_;have hdig:=hf.digits;have Hh:=hid h;clear h;subst hv;have HF:=hid hf;clear hf;go_enter Tryz.func188,Tryz.ntmps188
 go_wp2
 go_loopg [0,3,4,5,6] x (fun g a d _ _ _ wr=>∃acc:List UInt8,Hid (Nt wr a g)∧d = .string ⟨acc.toArray⟩∧Hid (QB x g acc)∧Below w.heap.size w wr)
 case atStart=>exact⟨[],Hh,rfl,hid ⟨by simp,fun _=>rfl,Nat.le_refl _⟩,Below.refl _ _⟩
 case round=>
  obtain⟨acc,hN,rfl,hI,hB⟩:=hrel
  have hacc:acc.length≤160000000000001:=by
   have:=congrArg List.length hI.out.1;rw[List.length_append,decDigits_length] at this;omega
  have hGr:=hid (hG.below hB);by_cases hc:10000000000000000000≤gk
  ·have hst:=hid (hI.out.step hc)
   obtain⟨d1,d2,d3⟩:=UN gk hc;have hlt:gk/10000000000000000000<gk:=Nat.div_lt_self (by omega) (by decide);have hfit:=hid (HF.out.le hI.out.2.2);have hrw:gk%10000000000000000000<WB:=Nat.lt_trans (Nat.mod_lt _ (by decide)) J0;have hDiv:=hid (fun w h=>KH u0 gk 10000000000000000000 w h (by decide) J0 hfit.out);have hFmt:=hid (fun w h=>Vr (gk%10000000000000000000) w hrw h);have hlen:(decDigits (gk%10000000000000000000)).length=nDigits (gk%10000000000000000000):=decDigits_length _;generalize gk%10000000000000000000=r at *;generalize gk/10000000000000000000=q at *;by_cases hw:gk<WB
   ·obtain⟨b,off,c1,hv1,hb1,hcell⟩:=hN.out.one_word (by omega) hw
    have hcI:(10000000000000000000:Int)≤(gk:Int):=by omega
    clear d1 hw hc;subst hv1
    go_wp2_with fail
    refine(hDiv.out _ hN.out).mono ?_;rintro e w1 ⟨q',rfl,hq,hB1⟩
    go_wp2_with fail
    refine(hFmt.out _ (hGr.out.below hB1)).mono ?_;rintro e w2 ⟨rfl,hB2⟩
    go_wp2_with fail
    rw[show (19:Int)-(nDigits r:Int)=((19-nDigits r:Nat):Int) from by omega];refine(Gg _ _ (by omega)).mono ?_;rintro e w3 ⟨rfl,hB3⟩
    go_wp2
    go_roundg q
    case measure=>exact hlt
    case rel=>
     refine⟨_,hid ((hq.below hB2).below hB3),?_,hst,hB.trans ((hB1.trans ((hB2.trans (hB3.mono hB2.size)).mono hB1.size)).mono hB.size)⟩;rw[←List.toArray_replicate,ByteArray.mk_append_mk,ByteArray.mk_append_mk]
   ·obtain⟨A1,n1,c1,hv1,hn1,hn2⟩:=hN.out.len_ge (Nat.not_lt.1 hw)
    clear d1 hw hc
    have hcI:(1:Int)<(n1:Int):=by omega
    subst hv1
    go_wp2_with fail
    refine(hDiv.out _ hN.out).mono ?_;rintro e w1 ⟨q',rfl,hq,hB1⟩
    go_wp2_with fail
    refine(hFmt.out _ (hGr.out.below hB1)).mono ?_;rintro e w2 ⟨rfl,hB2⟩
    go_wp2_with fail
    rw[show (19:Int)-(nDigits r:Int)=((19-nDigits r:Nat):Int) from by omega];refine(Gg _ _ (by omega)).mono ?_;rintro e w3 ⟨rfl,hB3⟩
    go_wp2
    go_roundg q
    case measure=>exact hlt
    case rel=>
     refine⟨_,hid ((hq.below hB2).below hB3),?_,hst,hB.trans ((hB1.trans ((hB2.trans (hB3.mono hB2.size)).mono hB1.size)).mono hB.size)⟩;rw[←List.toArray_replicate,ByteArray.mk_append_mk,ByteArray.mk_append_mk]
  ·by_cases h0:gk=0
   ·subst h0
    obtain⟨A1,c1,hv1⟩:=hN.out.zero_len
    have hfin:decDigits x=[48]:=by
     have e:=hI.out.1;have h48:decDigits 0=[48]:=decDigits_one (by omega);rw[hI.out.2.1 rfl,h48] at e;exact e
    have Hfin:=hid hfin;clear hfin;subst hv1
    go_wp2
    go_ret;exact⟨by rw[Hfin.out];rfl,hB⟩
   ·obtain⟨b,off,c1,hv1,hb1,hcell⟩:=hN.out.one_word (by omega) (by have:=J0;omega)
    have hFmt:=hid (fun w h=>Vr gk w (by have:=J0;omega) h)
    have hlen:(decDigits gk).length≤160000000000001:=by
     have:=congrArg List.length hI.out.1;rw[List.length_append,decDigits_length x] at this;omega
    have hcI:¬(10000000000000000000:Int)≤(gk:Int):=by omega
    have hd:decide ((10000000000000000000:Int)≤(gk:Int))=false:=by simpa using hcI
    subst hv1
    go_wp2_with fail
    refine(hFmt.out _ hGr.out).mono ?_;rintro e w1 ⟨rfl,hB1⟩
    go_wp2
    go_ret;refine⟨?_,hB.trans (hB1.mono hB.size)⟩;rw[hI.out.1,←ByteArray.mk_append_mk];rfl
end Go.Proofs.YtneafcdfnhnpnaaGreatDoor
namespace Go.Proofs.YtneafcdfnhnpnaaGreatDoor
open Go.RowKit
theorem NI (v u:Value) (x y:Nat) (w:World) (h:Nt w v x) (h':Nt w u y) (hw:y<WB) (hle:y≤x) (hf:jl x):
  Calls Tryz.prog 172 #[v,u] w fun e w'=>∃g,e = .returned g∧Nt w' g (Nat.gcd x y)∧Below w.heap.size w w':=by
 obtain⟨A,n,c,hv,_⟩:=h.size_;have ho:=Jz hle;by_cases h0:y=0
 ·subst h0
  rw[Nat.gcd_zero_right];obtain⟨B,d,hu⟩:=h'.zero_len;have Hh:=Lib.hid h;clear h;have Hh':=Lib.hid h';clear h';subst hv hu;go_enter Tryz.func172,Tryz.ntmps172
  go_wp2_with fail
  refine(qY _ _ _ _ _ Hh.out Hh'.out).mono ?_;rintro e w' ⟨rfl,k,rfl⟩
  go_wp2
  refine wp_loop_rounds 1 ?_;rw[rounds_succ]
  go_wp2
  go_ret;exact⟨_,rfl,Hh.out.drewN k,below_drewN (Below.refl _ _) k⟩
 ·obtain⟨b,off,d,hu,hb,hcell⟩:=h'.one_word (by omega) hw
  have Hh:=Lib.hid h;clear h;have Hh':=Lib.hid h';clear h';subst hv hu;by_cases h1:y=1
  ·subst h1
   rw[Nat.gcd_one_right];go_enter Tryz.func172,Tryz.ntmps172
   go_wp2_with fail
   refine(qY _ _ _ _ _ Hh.out Hh'.out).mono ?_;rintro e w' ⟨rfl,k,rfl⟩
   go_wp2
   refine wp_loop_rounds 1 ?_;rw[rounds_succ]
   go_wp2_with fail
   refine(kU _ 1 _ (Hh'.out.drewN k)).mono ?_;rintro e w' ⟨rfl,rfl⟩
   go_wp2
   go_ret;exact⟨_,rfl,Hh'.out.drewN k,below_drewN (Below.refl _ _) k⟩
  ·have hd:=Lib.hid (decide_eq_false h1)
   have Hf:=Lib.hid hf;clear hf;go_enter Tryz.func172,Tryz.ntmps172
   go_wp2_with fail
   refine(qY _ _ _ _ _ Hh.out Hh'.out).mono ?_;rintro e w' ⟨rfl,k,rfl⟩
   go_wp2
   refine wp_loop_rounds 1 ?_;rw[rounds_succ]
   go_wp2_with fail
   refine(kU _ y _ (Hh'.out.drewN k)).mono ?_;rintro e w' ⟨rfl,rfl⟩;rw[hd.out]
   go_wp2_with fail
   refine(KH _ x y _ (Hh.out.drewN k) (by omega) hw Hf.out).mono ?_;rintro e w1 ⟨q,rfl,hq,hB⟩;have hcell1:w1.cell? ⟨b,off,none⟩=some (.int .u64 (y:Int)):=(hB.cell (p:=⟨b,off,none⟩) hb).trans hcell
   go_wp2_with fail
   refine(Qq y (x%y) _).mono ?_;rintro e w2 ⟨rfl,m,rfl⟩
   have hg:Nat.gcd y (x%y)=Nat.gcd x y:=by rw[Nat.gcd_comm y,←Nat.gcd_rec,Nat.gcd_comm]
   rw[hg];have hgw:Nat.gcd x y<WB:=Nat.lt_of_le_of_lt (Nat.gcd_le_right x (by omega)) hw
   go_wp2_with fail
   refine(Jy (Nat.gcd x y) _ hgw).mono ?_;rintro e w3 ⟨r,rfl,hr,hB2⟩
   go_wp2
   go_ret;exact⟨r,rfl,hr,(below_drewN (Below.refl _ w) k).trans (hB.trans ((below_drewN (Below.refl _ w1) m).trans hB2 |>.mono hB.size))⟩
theorem Vs (v u:Value) (x y:Nat) (w:World) (h:Nt w v x) (h':Nt w u y) (hw:y<WB) (hle:y<x) (hf:jl x):
  Calls Tryz.prog 172 #[u,v] w fun e w'=>∃g,e = .returned g∧Nt w' g (Nat.gcd x y)∧Below w.heap.size w w':=by
 obtain⟨A,n,c,hv,_⟩:=h.size_;have ho:=Lib.hid (z8 hle);by_cases h0:y=0
 ·subst h0
  rw[Nat.gcd_zero_right];obtain⟨B,d,hu⟩:=h'.zero_len;have Hh:=Lib.hid h;clear h;have Hh':=Lib.hid h';clear h';subst hv hu;go_enter Tryz.func172,Tryz.ntmps172
  go_wp2_with fail
  refine(qY _ _ _ _ _ Hh'.out Hh.out).mono ?_;rintro e w' ⟨rfl,k,rfl⟩;rw[ho.out]
  go_wp2
  refine wp_loop_rounds 1 ?_;rw[rounds_succ]
  go_wp2
  go_ret;exact⟨_,rfl,Hh.out.drewN k,below_drewN (Below.refl _ _) k⟩
 ·obtain⟨b,off,d,hu,hb,hcell⟩:=h'.one_word (by omega) hw
  have Hh:=Lib.hid h;clear h;have Hh':=Lib.hid h';clear h';subst hv hu;by_cases h1:y=1
  ·subst h1
   rw[Nat.gcd_one_right];go_enter Tryz.func172,Tryz.ntmps172
   go_wp2_with fail
   refine(qY _ _ _ _ _ Hh'.out Hh.out).mono ?_;rintro e w' ⟨rfl,k,rfl⟩;rw[ho.out]
   go_wp2
   refine wp_loop_rounds 1 ?_;rw[rounds_succ]
   go_wp2_with fail
   refine(kU _ 1 _ (Hh'.out.drewN k)).mono ?_;rintro e w' ⟨rfl,rfl⟩
   go_wp2
   go_ret;exact⟨_,rfl,Hh'.out.drewN k,below_drewN (Below.refl _ _) k⟩
  ·have hd:=Lib.hid (decide_eq_false h1)
   have Hf:=Lib.hid hf;clear hf;go_enter Tryz.func172,Tryz.ntmps172
   go_wp2_with fail
   refine(qY _ _ _ _ _ Hh'.out Hh.out).mono ?_;rintro e w' ⟨rfl,k,rfl⟩;rw[ho.out]
   go_wp2
   refine wp_loop_rounds 1 ?_;rw[rounds_succ]
   go_wp2_with fail
   refine(kU _ y _ (Hh'.out.drewN k)).mono ?_;rintro e w' ⟨rfl,rfl⟩;rw[hd.out]
   go_wp2_with fail
   refine(KH _ x y _ (Hh.out.drewN k) (by omega) hw Hf.out).mono ?_;rintro e w1 ⟨q,rfl,hq,hB⟩;have hcell1:w1.cell? ⟨b,off,none⟩=some (.int .u64 (y:Int)):=(hB.cell (p:=⟨b,off,none⟩) hb).trans hcell
   go_wp2_with fail
   refine(Qq y (x%y) _).mono ?_;rintro e w2 ⟨rfl,m,rfl⟩
   have hg:Nat.gcd y (x%y)=Nat.gcd x y:=by rw[Nat.gcd_comm y,←Nat.gcd_rec,Nat.gcd_comm]
   rw[hg];have hgw:Nat.gcd x y<WB:=Nat.lt_of_le_of_lt (Nat.gcd_le_right x (by omega)) hw
   go_wp2_with fail
   refine(Jy (Nat.gcd x y) _ hgw).mono ?_;rintro e w3 ⟨r,rfl,hr,hB2⟩
   go_wp2
   go_ret;exact⟨r,rfl,hr,(below_drewN (Below.refl _ w) k).trans (hB.trans ((below_drewN (Below.refl _ w1) m).trans hB2 |>.mono hB.size))⟩
theorem zW (v u:Value) (x y:Nat) (w:World) (h:Nt w v x) (h':Nt w u y) (hf:jl x) (hg:jl y):
  Calls Tryz.prog 172 #[v,u] w fun e w'=>∃g,e = .returned g∧Nt w' g (Nat.gcd x y)∧Below w.heap.size w w':=by
 rcases Nat.lt_or_ge y WB with hy | hy
 ·rcases Nat.lt_or_ge x y with hxy | hxy
  ·rw[Nat.gcd_comm]
   exact Vs u v y x w h' h (by omega) hxy hg
  ·exact NI v u x y w h h' hy hxy hf
 ·rcases Nat.lt_or_ge x WB with hx | hx
  ·rw[Nat.gcd_comm]
   exact Vs u v y x w h' h hx (by omega) hg
  ·exact(hf.deep hx).gcd v u x y w h h' hx hy hf.big hg.big
