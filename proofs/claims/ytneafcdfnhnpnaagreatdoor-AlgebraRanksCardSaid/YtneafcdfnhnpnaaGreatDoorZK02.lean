/- Contracts: sums, differences. -/
import Derived.Test.YtneafcdfnhnpnaaGreatDoorZK01
import Derived.Lib.AppendIntMem
import Derived.Lib.OwnBridge
set_option maxRecDepth 100000
set_option maxHeartbeats 2000000
namespace Go.Proofs.YtneafcdfnhnpnaaGreatDoor
open Go.RowKit
@[irreducible] def y9:Nat:=8000000000000
theorem Q8:y9≤8000000000000:=by unfold y9;exact Nat.le_refl _
theorem Vk:8000000000000≤y9:=by unfold y9;exact Nat.le_refl _
def km (x:Nat):Prop:=x<WB^y9
structure Ji:Prop where
 div:MC
 long:∀(v u:Value) (x y:Nat) (w:World),Nt w v x→Nt w u y→WB≤y→y≤x→km x →
  Calls Tryz.prog 247 #[v,u] w fun e w'=>∃q r,e = .returned (.tuple #[q,r])∧Nt w' q (x/y)∧Nt w' r (x%y)∧Below w.heap.size w w'
 gcd:∀(v u:Value) (x y:Nat) (w:World),Nt w v x→Nt w u y→WB≤x→WB≤y→km x→km y →
  Calls Tryz.prog 172 #[v,u] w fun e w'=>∃g,e = .returned g∧Nt w' g (Nat.gcd x y)∧Below w.heap.size w w'
def jl (x:Nat):Prop:=x<WB∨(Ji∧km x)
theorem jl.small {x:Nat} (h:x<WB):jl x:= .inl h
theorem jl.big {x:Nat} (h:jl x):km x:=by
 rcases h with h | h
 ·have h1:WB^1≤WB^y9:=Nat.pow_le_pow_right (by decide) (Nat.le_trans (by decide) Vk)
  rw[Nat.pow_one] at h1;exact Nat.lt_of_lt_of_le h h1
 ·exact h.2
theorem jl.deep {x:Nat} (h:jl x) (hx:WB≤x):Ji:=by
 rcases h with h | h
 ·omega
 ·exact h.1
theorem jl.le {x y:Nat} (h:jl x) (hle:y≤x):jl y:=by
 rcases h with h | h
 ·exact .inl (Nat.lt_of_le_of_lt hle h)
 ·exact .inr ⟨h.1,Nat.lt_of_le_of_lt hle h.2⟩
theorem jl.len {ws:List Nat} (h:ki ws) {x:Nat} (hx:jd ws=x) (hf:jl x):ws.length≤8000000000000:=
 Nat.le_trans (Kt h (by rw[hx];exact hf.big)) Q8
theorem jl.words {ws:List Nat} (h:ki ws) {x:Nat} (hx:jd ws=x) (hf:jl x):ws.length≤1∨Ji:=by
 rcases hf with hf | hf
 ·exact .inl (Kt h (n:=1) (by rw[hx,Nat.pow_one];exact hf))
 ·exact .inr hf.1
def ql (n:Nat):Prop:=n≤19∨Ji
theorem ql.le {n m:Nat} (h:ql n) (hm:m≤n):ql m:=by
 rcases h with h | h
 ·exact .inl (by omega)
 ·exact .inr h
theorem jl.of_pow {x k:Nat} (h:x<10^k) (hd:ql k) (hk:k≤8000000000000):jl x:=by
 rcases hd with hd | hd
 ·refine .inl (Nat.lt_of_lt_of_le h ?_)
  have:10^k≤10^19:=Nat.pow_le_pow_right (by decide) hd;exact Nat.le_trans this (by decide)
 ·refine .inr ⟨hd,?_⟩
  have h1:10^k≤WB^k:=Nat.pow_le_pow_left (by decide) k;have h2:WB^k≤WB^y9:=Nat.pow_le_pow_right (by decide) (Nat.le_trans hk Vk);exact Nat.lt_of_lt_of_le h (Nat.le_trans h1 h2)
theorem St (hi lo y q r:Nat) (w:World) (hd:hi=0∨Ji) (h1:hi<y) (h2:lo<WB) (h3:y<WB) (h4:hi*WB+lo=q*y+r) (h5:r<y):
  Calls Tryz.prog 234 #[.int .u64 hi,.int .u64 lo,.int .u64 y] w fun e w'=>e = .returned (.tuple #[.int .u64 q,.int .u64 r]) ∧ ∃n,w'=w.drewN n:=by
 rcases hd with rfl | hd
 ·exact UW lo y q r w h2 (by omega) h5
 ·exact hd.div hi lo y q r w h1 h2 h3 h4 h5
theorem VW (v u:Value) (x y:Nat) (w:World) (h:Nt w v x) (h':Nt w u y) (hle:y≤x) (hf:jl x):
  Calls Tryz.prog 229 #[v,u] w fun e w'=>∃v,e = .returned v∧Nt w' v (x-y)∧Below w.heap.size w w':=by
 obtain⟨xs,A,c,rfl,h1,h2,h3,hc1,hc2,hs⟩:=h.open_;obtain⟨bs,B,d,rfl,g1,g2,g3,gc1,gc2,gs⟩:=h'.open_;have hlen:=jl.len h3 h1 hf;subst h1 g1
 have hbl:bs.length≤xs.length:=by
  rcases Nat.lt_or_ge xs.length bs.length with hl | hl
  ·have:=Kw h2 g3 hl;omega
  ·exact hl
 have hmk:=ye w xs.length (by omega);clear h h';go_enter Tryz.func229,Tryz.ntmps229
 go_wp2
 go_loopw [6,7,8,15] (fun br _ _ i wr=>∃(k b:Nat) (L:List Nat),i = .int .i64 k∧br = .int .u64 b∧k≤bs.length∧Hid (qV xs bs L k b)∧ja wr w.heap.size 148 (jy L)∧Below w.heap.size w wr) (fun _ _ _ i _=>bs.length-(intOf i).toNat)
 case atStart=>exact⟨0,0,_,rfl,rfl,by omega,Lib.hid (qV.start xs bs),ja.make _ _ _,(Below.refl _ _).alloc (Nat.le_refl _) _⟩
 case round=>
  obtain⟨k,b,L,rfl,rfl,hk,hI,hO,hB⟩:=hrel;have hb1:b≤1:=hI.out.2.2.1;have hLl:L.length=xs.length:=hI.out.1;by_cases hlt:k<bs.length
  ·obtain⟨b0,off,rfl,hbb,hcell⟩:=hs.at_ (k:=k) (by rw[jA];omega)
   obtain⟨b1,off1,rfl,hbb1,hcell1⟩:=gs.at_ (k:=k) (by rw[jA];omega);have hck:=(hB.cell (p:=⟨b0,off+k,none⟩) hbb).trans ((hcell k (by rw[jA];omega)).trans (jL xs k (by omega)));have hck1:=(hB.cell (p:=⟨b1,off1+k,none⟩) hbb1).trans ((hcell1 k (by rw[jA];omega)).trans (jL bs k (by omega)));have hck2:=(hO.cell k).trans (jL L k (by omega));have hfr:=hO.free k;have hwx:=jX h2 k;have hwy:=jX g2 k
   have Hst:=fun d br' a1 a2 a3=>Lib.hid (qV.step hI.out (d:=d) (br':=br') (by omega) a1 a2 a3)
   generalize xs[k]?.getD 0=x at *;generalize bs[k]?.getD 0=y at *;generalize L[k]?.getD 0=z at *;clear hcell hcell1 hs gs hLl;unfold WB at hwx hwy
   have hlk:k<xs.length:=by omega
   go_wp2_with (first | simp only[XM (x:Int) (y:Int) (b:Int) (by omega) (by omega) (by omega) (by omega) (by omega) (by omega)])
   obtain⟨d,br,e1,e2,a1,a2,a3⟩:=ZI x y b hwx hwy hb1;rw[e1,e2];refine⟨⟨k+1,br,_,by go_num,rfl,by omega,Hst d br a1 a2 a3,?_,hB.setCell (by simp) _⟩,by simp[intOf];omega⟩;rw[←kF];exact hO.put k _
  ·have hkk:k=bs.length:=by omega
   subst hkk
   go_wp2
   go_loopw [6,9] (fun br i wr=>∃(k b:Nat) (L:List Nat),i = .int .i64 k∧br = .int .u64 b∧bs.length≤k∧k≤xs.length∧Hid (qV xs bs L k b)∧ja wr w.heap.size 148 (jy L)∧Below w.heap.size w wr) (fun _ i _=>xs.length-(intOf i).toNat)
   case atStart=>exact⟨bs.length,b,L,rfl,rfl,by omega,by omega,hI,hO,hB⟩
   case round=>
    clear hI hO hB hb1 hLl;obtain⟨k,b,L,rfl,rfl,hk1,hk,hI,hO,hB⟩:=hrel;have hb1:b≤1:=hI.out.2.2.1;have hLl:L.length=xs.length:=hI.out.1;by_cases hlt:k<xs.length
    ·obtain⟨b0,off,rfl,hbb,hcell⟩:=hs.at_ (k:=k) (by rw[jA];omega)
     have hck:=(hB.cell (p:=⟨b0,off+k,none⟩) hbb).trans ((hcell k (by rw[jA];omega)).trans (jL xs k (by omega)));have hck2:=(hO.cell k).trans (jL L k (by omega));have hfr:=hO.free k;have hwx:=jX h2 k
     have hz:bs[k]?.getD 0=0:=by rw[List.getElem?_eq_none (by omega)];rfl
     have Hst:=fun d br' a1 a2 a3=>Lib.hid (qV.step hI.out (d:=d) (br':=br') (by omega) a1 a2 a3)
     rw[hz] at Hst;clear hz;generalize xs[k]?.getD 0=x at *;generalize L[k]?.getD 0=z at *;clear hcell hs gs hLl;unfold WB at hwx
     go_wp2_with (first | simp only[GH (x:Int) (b:Int) (by omega) (by omega) (by omega) (by omega)])
     obtain⟨d,br,e1,e2,a1,a2,a3⟩:=GJ x b hwx hb1;rw[e1,e2];refine⟨⟨k+1,br,_,by go_num,rfl,by omega,by omega,Hst d br a1 a2 a3,?_,hB.setCell (by simp) _⟩,by simp[intOf];omega⟩;rw[←kF];exact hO.put k _
    ·have hkk:k=xs.length:=by omega
     subst hkk;have hval:=Lib.hid (hI.out.last hbl hle);have hok:=hI.out.2.1;have hsl:=hO.sl xs.length (by rw[jA];omega) (by omega)
     go_wp2_with (go_at_call 195;refine(zj _ _ _ _ _ hok hsl).mono ?_;rintro e w' ⟨v,rfl,hv,rfl⟩)
     go_ret;refine⟨v,rfl,?_,hB⟩;rw[←hval.out];exact hv
theorem Ac (v u:Value) (x y:Nat) (xs bs:List Nat) (A B:Option Addr) (c d:Nat) (w:World) (hv:v = .slice A xs.length c) (hu:u = .slice B bs.length d) (h1:jd xs=x) (h2:jJ xs) (g1:jd bs=y) (g2:jJ bs)
  (hs:Sl w 1 (.slice A xs.length c) (jy xs)) (gs:Sl w 1 (.slice B bs.length d) (jy bs)) (hbl:bs.length≤xs.length) (hlen:xs.length≤8000000000000):
  Calls Tryz.prog 228 #[v,u] w fun e w'=>∃v,e = .returned v∧Nt w' v (x+y)∧Below w.heap.size w w':=by
 subst hv hu h1 g1;have hmk:=ye w (xs.length+1) (by omega);rw[show ((xs.length+1:Nat):Int)=(xs.length:Int)+1 from by omega] at hmk
 have hdl:decide (xs.length<bs.length)=false:=by simpa using hbl
 go_enter Tryz.func228,Tryz.ntmps228
 go_wp2
 go_loopw [6,7,8,23] (fun cr _ _ i wr=>∃(k b:Nat) (L:List Nat),i = .int .i64 k∧cr = .int .u64 b∧k≤bs.length∧Hid (qS xs bs L k b)∧ja wr w.heap.size 148 (jy L)∧Below w.heap.size w wr) (fun _ _ _ i _=>bs.length-(intOf i).toNat)
 case atStart=>exact⟨0,0,_,rfl,rfl,by omega,Lib.hid (qS.start xs bs),ja.make _ _ _,(Below.refl _ _).alloc (Nat.le_refl _) _⟩
 case round=>
  obtain⟨k,b,L,rfl,rfl,hk,hI,hO,hB⟩:=hrel;have hb1:b≤1:=hI.out.2.2.1;have hLl:L.length=xs.length+1:=hI.out.1;by_cases hlt:k<bs.length
  ·obtain⟨b0,off,rfl,hbb,hcell⟩:=hs.at_ (k:=k) (by rw[jA];omega)
   obtain⟨b1,off1,rfl,hbb1,hcell1⟩:=gs.at_ (k:=k) (by rw[jA];omega);have hck:=(hB.cell (p:=⟨b0,off+k,none⟩) hbb).trans ((hcell k (by rw[jA];omega)).trans (jL xs k (by omega)));have hck1:=(hB.cell (p:=⟨b1,off1+k,none⟩) hbb1).trans ((hcell1 k (by rw[jA];omega)).trans (jL bs k (by omega)));have hck2:=(hO.cell k).trans (jL L k (by omega));have hfr:=hO.free k;have hwx:=jX h2 k;have hwy:=jX g2 k
   have Hst:=fun d br' a1 a2 a3=>Lib.hid (qS.step hI.out (d:=d) (c':=br') (by omega) a1 a2 a3)
   generalize xs[k]?.getD 0=x at *;generalize bs[k]?.getD 0=y at *;generalize L[k]?.getD 0=z at *;clear hcell hcell1 hs gs hLl;unfold WB at hwx hwy
   have hlk:k<xs.length:=by omega
   go_wp2_with (first | simp only[KB (x:Int) (y:Int) (b:Int) (by omega) (by omega) (by omega) (by omega) (by omega) (by omega)])
   obtain⟨d,br,e1,e2,a1,a2,a3⟩:=Yf x y b hwx hwy hb1;rw[e1,e2];refine⟨⟨k+1,br,_,by go_num,rfl,by omega,Hst d br a1 a2 a3,?_,hB.setCell (by simp) _⟩,by simp[intOf];omega⟩;rw[←kF];exact hO.put k _
  ·have hkk:k=bs.length:=by omega
   subst hkk
   go_wp2
   go_loopw [6,9] (fun br i wr=>∃(k b:Nat) (L:List Nat),i = .int .i64 k∧br = .int .u64 b∧bs.length≤k∧k≤xs.length∧Hid (qS xs bs L k b)∧ja wr w.heap.size 148 (jy L)∧Below w.heap.size w wr) (fun _ i _=>xs.length-(intOf i).toNat)
   case atStart=>exact⟨bs.length,b,L,rfl,rfl,by omega,by omega,hI,hO,hB⟩
   case round=>
    clear hI hO hB hb1 hLl;obtain⟨k,b,L,rfl,rfl,hk1,hk,hI,hO,hB⟩:=hrel;have hb1:b≤1:=hI.out.2.2.1;have hLl:L.length=xs.length+1:=hI.out.1;by_cases hlt:k<xs.length
    ·obtain⟨b0,off,rfl,hbb,hcell⟩:=hs.at_ (k:=k) (by rw[jA];omega)
     have hck:=(hB.cell (p:=⟨b0,off+k,none⟩) hbb).trans ((hcell k (by rw[jA];omega)).trans (jL xs k (by omega)));have hck2:=(hO.cell k).trans (jL L k (by omega));have hfr:=hO.free k;have hwx:=jX h2 k
     have hz:bs[k]?.getD 0=0:=by rw[List.getElem?_eq_none (by omega)];rfl
     have Hst:=fun d br' a1 a2 a3=>Lib.hid (qS.step hI.out (d:=d) (c':=br') (by omega) a1 a2 a3)
     rw[hz] at Hst;clear hz;generalize xs[k]?.getD 0=x at *;generalize L[k]?.getD 0=z at *;clear hcell hs gs hLl;unfold WB at hwx
     go_wp2_with (first | simp only[Un (x:Int) (b:Int) (by omega) (by omega) (by omega) (by omega)])
     obtain⟨d,br,e1,e2,a1,a2,a3⟩:=JW x b hwx (by unfold WB;omega);rw[e1,e2];refine⟨⟨k+1,br,_,by go_num,rfl,by omega,by omega,Hst d br a1 a2 (by omega),?_,hB.setCell (by simp) _⟩,by simp[intOf];omega⟩;rw[←kF];exact hO.put k _
    ·have hkk:k=xs.length:=by omega
     subst hkk;have hval:=Lib.hid (hI.out.last hbl);have hck2:=(hO.cell xs.length).trans (jL L xs.length (by omega));generalize L[xs.length]?.getD 0=z at *;have hfr:=hO.free xs.length;have hO2:=hO.put xs.length (.int .u64 (b:Int));rw[kF] at hO2;have hsl:=Lib.hid (hO2.sl (xs.length+1) (by rw[jA];exact hval.out.2.2) (by omega));clear hLl
     go_wp2_with (go_at_call 195;refine(zj _ _ _ _ _ hval.out.2.1 hsl.out).mono ?_;rintro e w' ⟨v,rfl,hv,rfl⟩)
     go_ret;refine⟨v,rfl,?_,hB.setCell (by simp) _⟩;rw[←hval.out.1];exact hv
theorem Ag (v u:Value) (x y:Nat) (zs bs:List Nat) (A B:Option Addr) (c d:Nat) (w:World) (hv:v = .slice A zs.length c) (hu:u = .slice B bs.length d) (h1:jd zs=x) (h2:jJ zs) (g1:jd bs=y) (g2:jJ bs)
  (hs:Sl w 1 (.slice A zs.length c) (jy zs)) (gs:Sl w 1 (.slice B bs.length d) (jy bs)) (hbl:bs.length<zs.length) (hlen:zs.length≤8000000000000):
  Calls Tryz.prog 228 #[u,v] w fun e w'=>∃v,e = .returned v∧Nt w' v (x+y)∧Below w.heap.size w w':=by
 subst hv hu h1 g1;have hmk:=ye w (zs.length+1) (by omega);rw[show ((zs.length+1:Nat):Int)=(zs.length:Int)+1 from by omega] at hmk
 have hdl:decide (bs.length<zs.length)=true:=by simpa using hbl
 go_enter Tryz.func228,Tryz.ntmps228
 go_wp2
 go_loopw [6,7,8,23] (fun cr _ _ i wr=>∃(k b:Nat) (L:List Nat),i = .int .i64 k∧cr = .int .u64 b∧k≤bs.length∧Hid (qS zs bs L k b)∧ja wr w.heap.size 148 (jy L)∧Below w.heap.size w wr) (fun _ _ _ i _=>bs.length-(intOf i).toNat)
 case atStart=>exact⟨0,0,_,rfl,rfl,by omega,Lib.hid (qS.start zs bs),ja.make _ _ _,(Below.refl _ _).alloc (Nat.le_refl _) _⟩
 case round=>
  obtain⟨k,b,L,rfl,rfl,hk,hI,hO,hB⟩:=hrel;have hb1:b≤1:=hI.out.2.2.1;have hLl:L.length=zs.length+1:=hI.out.1;by_cases hlt:k<bs.length
  ·obtain⟨b0,off,rfl,hbb,hcell⟩:=hs.at_ (k:=k) (by rw[jA];omega)
   obtain⟨b1,off1,rfl,hbb1,hcell1⟩:=gs.at_ (k:=k) (by rw[jA];omega);have hck:=(hB.cell (p:=⟨b0,off+k,none⟩) hbb).trans ((hcell k (by rw[jA];omega)).trans (jL zs k (by omega)));have hck1:=(hB.cell (p:=⟨b1,off1+k,none⟩) hbb1).trans ((hcell1 k (by rw[jA];omega)).trans (jL bs k (by omega)));have hck2:=(hO.cell k).trans (jL L k (by omega));have hfr:=hO.free k;have hwx:=jX h2 k;have hwy:=jX g2 k
   have Hst:=fun d br' a1 a2 a3=>Lib.hid (qS.step hI.out (d:=d) (c':=br') (by omega) a1 a2 a3)
   generalize zs[k]?.getD 0=x at *;generalize bs[k]?.getD 0=y at *;generalize L[k]?.getD 0=z at *;clear hcell hcell1 hs gs hLl;unfold WB at hwx hwy
   have hlk:k<zs.length:=by omega
   go_wp2_with (first | simp only[KB (x:Int) (y:Int) (b:Int) (by omega) (by omega) (by omega) (by omega) (by omega) (by omega)])
   obtain⟨d,br,e1,e2,a1,a2,a3⟩:=Yf x y b hwx hwy hb1;rw[e1,e2];refine⟨⟨k+1,br,_,by go_num,rfl,by omega,Hst d br a1 a2 a3,?_,hB.setCell (by simp) _⟩,by simp[intOf];omega⟩;rw[←kF];exact hO.put k _
  ·have hkk:k=bs.length:=by omega
   subst hkk
   go_wp2
   go_loopw [6,9] (fun br i wr=>∃(k b:Nat) (L:List Nat),i = .int .i64 k∧br = .int .u64 b∧bs.length≤k∧k≤zs.length∧Hid (qS zs bs L k b)∧ja wr w.heap.size 148 (jy L)∧Below w.heap.size w wr) (fun _ i _=>zs.length-(intOf i).toNat)
   case atStart=>exact⟨bs.length,b,L,rfl,rfl,by omega,by omega,hI,hO,hB⟩
   case round=>
    clear hI hO hB hb1 hLl;obtain⟨k,b,L,rfl,rfl,hk1,hk,hI,hO,hB⟩:=hrel;have hb1:b≤1:=hI.out.2.2.1;have hLl:L.length=zs.length+1:=hI.out.1;by_cases hlt:k<zs.length
    ·obtain⟨b0,off,rfl,hbb,hcell⟩:=hs.at_ (k:=k) (by rw[jA];omega)
     have hck:=(hB.cell (p:=⟨b0,off+k,none⟩) hbb).trans ((hcell k (by rw[jA];omega)).trans (jL zs k (by omega)));have hck2:=(hO.cell k).trans (jL L k (by omega));have hfr:=hO.free k;have hwx:=jX h2 k
     have hz:bs[k]?.getD 0=0:=by rw[List.getElem?_eq_none (by omega)];rfl
     have Hst:=fun d br' a1 a2 a3=>Lib.hid (qS.step hI.out (d:=d) (c':=br') (by omega) a1 a2 a3)
     rw[hz] at Hst;clear hz;generalize zs[k]?.getD 0=x at *;generalize L[k]?.getD 0=z at *;clear hcell hs gs hLl;unfold WB at hwx
     go_wp2_with (first | simp only[Un (x:Int) (b:Int) (by omega) (by omega) (by omega) (by omega)])
     obtain⟨d,br,e1,e2,a1,a2,a3⟩:=JW x b hwx (by unfold WB;omega);rw[e1,e2];refine⟨⟨k+1,br,_,by go_num,rfl,by omega,by omega,Hst d br a1 a2 (by omega),?_,hB.setCell (by simp) _⟩,by simp[intOf];omega⟩;rw[←kF];exact hO.put k _
    ·have hkk:k=zs.length:=by omega
     subst hkk;have hval:=Lib.hid (hI.out.last (Nat.le_of_lt hbl));have hck2:=(hO.cell zs.length).trans (jL L zs.length (by omega));generalize L[zs.length]?.getD 0=z at *;have hfr:=hO.free zs.length;have hO2:=hO.put zs.length (.int .u64 (b:Int));rw[kF] at hO2;have hsl:=Lib.hid (hO2.sl (zs.length+1) (by rw[jA];exact hval.out.2.2) (by omega));clear hLl
     go_wp2_with (go_at_call 195;refine(zj _ _ _ _ _ hval.out.2.1 hsl.out).mono ?_;rintro e w' ⟨v,rfl,hv,rfl⟩)
     go_ret;refine⟨v,rfl,?_,hB.setCell (by simp) _⟩;rw[←hval.out.1];exact hv
theorem Aa (v u:Value) (x y:Nat) (w:World) (h:Nt w v x) (h':Nt w u y) (hf:jl x) (hg:jl y):
  Calls Tryz.prog 228 #[v,u] w fun e w'=>∃v,e = .returned v∧Nt w' v (x+y)∧Below w.heap.size w w':=by
 obtain⟨zs,A,c,hv,h1,h2,h3,_,_,hs⟩:=h.open_;obtain⟨bs,B,d,hu,g1,g2,g3,_,_,gs⟩:=h'.open_;have hlen:=jl.len h3 h1 hf;have glen:=jl.len g3 g1 hg;by_cases hl:bs.length≤zs.length
 ·exact Ac v u x y zs bs A B c d w hv hu h1 h2 g1 g2 hs gs hl hlen
 ·rw[Nat.add_comm]
  exact Ag u v y x bs zs B A d c w hu hv g1 g2 h1 h2 gs hs (by omega) glen
theorem GW (v:Value) (x f a:Nat) (w:World) (h:Nt w v x) (hfw:f<WB) (haw:a<WB) (hf:jl x):
  Calls Tryz.prog 138 #[v,.int .u64 f,.int .u64 a] w fun e w'=>∃v,e = .returned v∧Nt w' v (x*f+a)∧Below w.heap.size w w':=by
 obtain⟨xs,A,c,rfl,h1,h2,h3,hc1,hc2,hs⟩:=h.open_;have hlen:=jl.len h3 h1 hf;subst h1;have hmk:=ye w (xs.length+1) (by omega);rw[show ((xs.length+1:Nat):Int)=(xs.length:Int)+1 from by omega] at hmk;have hstart:=Lib.hid (xQ.start xs f a haw);have hown:=ja.make w 148 (jy (List.replicate (xs.length+1) 0));have hown2:=hown.put 0 (.int .u64 (a:Int));rw[kF] at hown2;have hck2:=(hown.cell 0).trans (jL _ 0 (by simp));have hfr:=hown.free 0;rw[show (List.replicate (xs.length+1) 0)[0]?.getD 0=0 from by simp] at hck2
 obtain⟨w1,hw1⟩:∃w1,w1=w.alloc (.cells (jy (List.replicate (xs.length+1) 0)).toArray 148):=⟨_,rfl⟩
 rw[←hw1] at hmk hown hown2 hck2 hfr
 have hB1:Below w.heap.size w w1:=by rw[hw1];exact(Below.refl _ _).alloc (Nat.le_refl _) _
 clear h hw1;go_enter Tryz.func138,Tryz.ntmps138
 go_wp2
 go_loopw [8,9,10,11,12,22] (fun _ _ _ _ _ i wr=>∃(k:Nat) (L:List Nat),i = .int .i64 k∧k≤xs.length∧Hid (xQ xs L f a k)∧ja wr w.heap.size 148 (jy L)∧Below w.heap.size w wr) (fun _ _ _ _ _ i _=>xs.length-(intOf i).toNat)
 case atStart=>exact⟨0,_,rfl,by omega,hstart,hown2,hB1.setCell (by simp) _⟩
 case round=>
  clear hown hown2 hck2 hfr;obtain⟨k,L,rfl,hk,hI,hO,hB⟩:=hrel;have hLl:L.length=xs.length+1:=hI.out.1;by_cases hlt:k<xs.length
  ·obtain⟨b0,off,rfl,hbb,hcell⟩:=hs.at_ (k:=k) (by rw[jA];omega)
   have hck:=(hB.cell (p:=⟨b0,off+k,none⟩) hbb).trans ((hcell k (by rw[jA];omega)).trans (jL xs k (by omega)));have hck2:=(hO.cell k).trans (jL L k (by omega));have hck3:=(hO.cell (k+1)).trans (jL L (k+1) (by omega));have hfr:=hO.free k;have hfr3:=hO.free (k+1);have hwx:=jX h2 k;have hwz:=jX hI.out.2.1 k;obtain⟨m1,m2,m3,m4⟩:=V3 _ f hwx hfw
   have Hst:=fun d c hi lo a1 a2 a3 a4=>Lib.hid (xQ.step hI.out (d:=d) (c:=c) (hi:=hi) (lo:=lo) (by omega) a1 a2 a3 a4)
   have hm4:=m4 _ hwz;generalize xs[k]?.getD 0=x at *;generalize L[k]?.getD 0=z at *;generalize L[k+1]?.getD 0=z1 at *;generalize hhi:x*f/WB=hi at *;generalize hlo:x*f%WB=lo at *;obtain⟨d,cr,e1,e2,a1,a2,a3⟩:=JW z lo hwz m3;have Hm2:=Lib.hid m2.symm
   have hbd:(hi:Int)+cr≤18446744073709551615:=by
    have:(z+lo)/WB=cr:=by unfold WB at *;omega
    unfold WB at *;omega
   have Hs2:=Hst d cr hi lo a1 (by unfold WB;omega) m2.symm a3
   have Hmul:=fun w=>K1 x f hi lo w hwx hfw Hm2.out m3
   have Hadd:=fun w=>KD (z:Int) (lo:Int) (by omega) (by unfold WB at hwz;omega) (by omega) (by unfold WB at m3;omega) w
   rw[e1,e2] at Hadd;have HMul:=Lib.hid Hmul;clear Hmul hcell hs hLl m1 m2 m4 hm4 Hst hhi hlo hwx hwz m3 a3 a1 e1 e2
   go_wp2_with (first | (go_at_call 193;refine(HMul.out _).mono ?_;rintro e w' ⟨rfl,rfl⟩))
   refine⟨⟨k+1,_,by go_num,by omega,Hs2,?_,(hB.setCell (by simp) _).setCell (by simp) _⟩,by simp[intOf];omega⟩;have:=(hO.put k (.int .u64 (d:Int))).put (k+1) (.int .u64 ((hi+cr:Nat):Int));rw[kF,kF] at this;simpa using this
  ·have hkk:k=xs.length:=by omega
   subst hkk;have hval:=Lib.hid hI.out.last;have hok:=hI.out.2.1;have hsl:=Lib.hid (hO.sl (xs.length+1) (by rw[jA];omega) (by omega));clear hLl
   go_wp2_with (go_at_call 195;refine(zj _ _ _ _ _ hok hsl.out).mono ?_;rintro e w' ⟨v,rfl,hv,rfl⟩)
   go_ret;refine⟨v,rfl,?_,hB⟩;rw[←hval.out];exact hv
theorem KJ (v:Value) (x b:Nat) (w:World) (h:Nt w v x) (hb0:0<b) (hbw:b<WB) (hf:jl x):
  Calls Tryz.prog 196 #[v,.int .u64 b] w fun e w'=>∃v,e = .returned (.tuple #[v,.int .u64 ((x%b:Nat):Int)])∧Nt w' v (x/b)∧Below w.heap.size w w':=by
 obtain⟨xs,A,c,rfl,h1,h2,h3,hc1,hc2,hs⟩:=h.open_;have hlen:=jl.len h3 h1 hf;have HD:=Lib.hid (jl.words h3 h1 hf);clear hf;subst h1;have hmk:=ye w xs.length (by omega);clear h;go_enter Tryz.func196,Tryz.ntmps196
 go_wp2
 go_loopw [5,6] (fun r i wr=>∃(k b0:Nat) (L:List Nat),i = .int .i64 ((k:Int)-1)∧r = .int .u64 b0∧k≤xs.length∧Hid (k=xs.length→b0=0)∧Hid (yp xs L b k b0)∧ja wr w.heap.size 148 (jy L)∧Below w.heap.size w wr) (fun _ i _=>(intOf i+1).toNat)
 case atStart=>exact⟨xs.length,0,_,rfl,rfl,by omega,Lib.hid (fun _=>rfl),Lib.hid (yp.start xs b hb0),ja.make _ _ _,(Below.refl _ _).alloc (Nat.le_refl _) _⟩
 case round=>
  obtain⟨k,r,L,rfl,rfl,hk,hZ,hI,hO,hB⟩:=hrel;have hLl:L.length=xs.length:=hI.out.1;have hrb:r<b:=hI.out.2.2.1;by_cases hk0:k=0
  ·subst hk0
   obtain⟨q1,q2⟩:=hI.out.last;have Q1:=Lib.hid q1;have Q2:=Lib.hid q2;clear q1 q2;have hok:=hI.out.2.1;have hsl:=Lib.hid (hO.sl xs.length (by rw[jA];omega) (by omega));clear hLl
   go_wp2_with (go_at_call 195;refine(zj _ _ _ _ _ hok hsl.out).mono ?_;rintro e w' ⟨v,rfl,hv,rfl⟩)
   go_ret2;refine⟨v,by rw[←Q2.out];rfl,?_,hB⟩;rw[←Q1.out];exact hv
  ·obtain⟨j,rfl⟩:∃j,k=j+1:=⟨k-1,by omega⟩
   rw[show ((j+1:Nat):Int)-1=(j:Int) from by omega];obtain⟨b0,off,rfl,hbb,hcell⟩:=hs.at_ (k:=j) (by rw[jA];omega)
   have Hz:Hid (r=0∨Ji):=Lib.hid (by
    rcases HD.out with h | h
    ·exact .inl (hZ.out (by omega))
    ·exact .inr h)
   clear hZ;have hck:=(hB.cell (p:=⟨b0,off+j,none⟩) hbb).trans ((hcell j (by rw[jA];omega)).trans (jL xs j (by omega)));have hck2:=(hO.cell j).trans (jL L j (by omega));have hfr:=hO.free j;have hwx:=jX h2 j;have Hst:=Lib.hid (hI.out.step (by omega) hb0 (UZ hrb hwx));have Hdm:=Lib.hid (Nat.div_add_mod (r*WB+xs[j]?.getD 0) b);have hrm:(r*WB+xs[j]?.getD 0)%b<b:=Nat.mod_lt _ hb0;generalize xs[j]?.getD 0=x at *;generalize L[j]?.getD 0=z at *;generalize (r*WB+x)/b=q at *;generalize (r*WB+x)%b=r' at *;have Hdiv:=Lib.hid (fun w=>St r x b q r' w Hz.out hrb hwx hbw (by rw[Nat.mul_comm q b];exact Hdm.out.symm) hrm)
   have hlj:j<xs.length:=by omega
   clear hcell hs hLl hwx Hdm hrm
   go_wp2_with (first | (go_at_call 234;refine(Hdiv.out _).mono ?_;rintro e w' ⟨rfl,nq,rfl⟩))
   refine⟨⟨j,r',_,by go_num,rfl,by omega,Lib.hid (fun h=>by omega),Hst,?_,?_⟩,by simp[intOf]⟩
   ·rw[←kF];exact(hO.drewN nq).put j _
   ·exact(below_drewN hB nq).setCell (by simp) _
def Ew (bs L0:List Nat) (f off g:Nat) (w:World) (e:Ending) (w':World):Prop:=
 ∃(c:Nat) (L:List Nat),e = .returned (.int .u64 c)∧zm bs L0 L f off bs.length c∧ja w' g 148 (jy L)∧Below g w w'
theorem Es (u:Value) (bs L0:List Nat) (f off g n c:Nat) (w w0:World) (hfw:f<WB) (hO:ja w g 148 (jy L0)) (hok:jJ L0) (hn:n=bs.length) (hlen:off+bs.length≤L0.length)
  (hbok:jJ bs) (gs:Sl w0 1 u (jy bs)) (hB0:Below w0.heap.size w0 w) (hg:w0.heap.size≤g):
  Calls Tryz.prog 230 #[.slice (some ⟨g,off,none⟩) n c,u,.int .u64 f] w (Ew bs L0 f off g w):=by
 obtain⟨B,d,rfl,gc1,gc2⟩:=gs.form;rw[jA] at gc1 gs ⊢;subst hn;have hst:=Lib.hid (zm.start (bs:=bs) f off hok);go_enter Tryz.func230,Tryz.ntmps230
 go_wp2
 go_loopw [6,7,8,9,10,11,14] (fun cr _ _ _ _ _ i wr=>∃(k c:Nat) (L:List Nat),i = .int .i64 k∧cr = .int .u64 c∧k≤bs.length∧Hid (zm bs L0 L f off k c)∧ja wr g 148 (jy L)∧Below g w wr) (fun _ _ _ _ _ _ i _=>bs.length-(intOf i).toNat)
 case atStart=>exact⟨0,0,L0,rfl,rfl,by omega,hst,hO,Below.refl _ _⟩
 case round=>
  clear hO;obtain⟨k,c,L,rfl,rfl,hk,hI,hO,hB⟩:=hrel;have hLl:L.length=L0.length:=hI.out.1;have hcw:c<WB:=hI.out.2.2.2.1;by_cases hlt:k<bs.length
  ·obtain⟨b1,off1,rfl,hbb1,hcell1⟩:=gs.at_ (k:=k) (by rw[jA];omega)
   have hck1:=(hB.cell (p:=⟨b1,off1+k,none⟩) (Nat.lt_of_lt_of_le hbb1 hg)).trans ((hB0.cell (p:=⟨b1,off1+k,none⟩) hbb1).trans ((hcell1 k (by rw[jA];omega)).trans (jL bs k (by omega))));have hck2:=(hO.cell (off+k)).trans (jL L (off+k) (by omega));have hfr:=hO.free (off+k);have hwx:=jX hbok k;have hwz:=jX hI.out.2.1 (off+k)
   have Hst:=fun d c' a1 a2 a3=>Lib.hid (hI.out.step (d:=d) (c':=c') (by omega) hlen a1 a2 a3)
   generalize bs[k]?.getD 0=x at *;generalize L[off+k]?.getD 0=z at *;obtain⟨hi,lo,l1,o1,d,o2,m1,m2,m3,m4,m5,m6,m7,m8,m9,m10,m11⟩:=Ex x f c z hwx hfw hcw hwz;have Hs2:=Hst d (hi+o1+o2) m8 m10 m11;have HMul:=Lib.hid (fun w=>K1 x f hi lo w hwx hfw m1 m2)
   have ha1:∀w,(callFunc 194 #[.int .u64 (lo:Int),.int .u64 (c:Int),.int .u64 0]).run Tryz.prog w = .ok (.value (.tuple #[.int .u64 (l1:Int),.int .u64 (o1:Int)])) w:=by
    intro w;have:=KD (lo:Int) (c:Int) (by omega) (by unfold WB at m2;omega) (by omega) (by unfold WB at hcw;omega) w;rw[show ((lo:Int)+c)%18446744073709551616=l1 from by unfold WB at *;omega,show ((lo:Int)+c)/18446744073709551616=o1 from by unfold WB at *;omega] at this;exact this
   have ha2:∀w,(callFunc 194 #[.int .u64 (z:Int),.int .u64 (l1:Int),.int .u64 0]).run Tryz.prog w = .ok (.value (.tuple #[.int .u64 (d:Int),.int .u64 (o2:Int)])) w:=by
    intro w;have:=KD (z:Int) (l1:Int) (by omega) (by unfold WB at hwz;omega) (by omega) (by unfold WB at m4;omega) w;rw[show ((z:Int)+l1)%18446744073709551616=d from by unfold WB at *;omega,show ((z:Int)+l1)/18446744073709551616=o2 from by unfold WB at *;omega] at this;exact this
   have hb1:(hi:Int)+o1≤18446744073709551615:=by unfold WB at *;omega
   have hb2:(hi:Int)+o1+o2≤18446744073709551615:=by unfold WB at *;omega
   clear hcell1 gs hLl m1 m2 m3 m4 m5 m6 m7 m8 m9 m10 m11 Hst hwx hwz hcw;have Ha1:=Lib.hid ha1;have Ha2:=Lib.hid ha2;clear ha1 ha2
   go_wp2_with (first | (go_at_call 193;refine(HMul.out _).mono ?_;rintro e w' ⟨rfl,rfl⟩) | (simp only[Ha1.out]) | (simp only[Ha2.out]))
   refine⟨⟨k+1,hi+o1+o2,_,by go_num,by simp,by omega,Hs2,?_,hB.setCell (by simp) _⟩,by simp[intOf];omega⟩;rw[←kF];exact hO.put (off+k) _
  ·have hkk:k=bs.length:=by omega
   subst hkk;have HI:=hI.out;have HH:=Lib.hid HI;clear HI
   go_wp2
   go_ret;exact⟨c,L,rfl,HH.out,hO,hB⟩
theorem Qp (v u:Value) (x y:Nat) (w:World) (h:Nt w v x) (h':Nt w u y) (hf:jl x) (hg:jl y):
  Calls Tryz.prog 178 #[v,u] w fun e w'=>∃v,e = .returned v∧Nt w' v (x*y)∧Below w.heap.size w w':=by
 by_cases hx1:x=1
 ·subst hx1
  rw[Nat.one_mul];obtain⟨ws,A,c,hv,_⟩:=h.open_;obtain⟨us,B,d,hu,_⟩:=h'.open_;have Hh:=Lib.hid h;clear h;have Hh':=Lib.hid h';clear h';subst hv hu;go_enter Tryz.func178,Tryz.ntmps178
  go_wp2_with (first | (go_at_call 139;refine(kS _ _ _ Hh.out).mono ?_;rintro e w' ⟨rfl,rfl⟩))
  go_ret;exact⟨_,rfl,Hh'.out,Below.refl _ _⟩
 ·have hd1:=Lib.hid (decide_eq_false hx1)
  by_cases hy1:y=1
  ·subst hy1
   rw[Nat.mul_one];obtain⟨ws,A,c,hv,_⟩:=h.open_;obtain⟨us,B,d,hu,_⟩:=h'.open_;have Hh:=Lib.hid h;clear h;have Hh':=Lib.hid h';clear h';subst hv hu;have hn:=Lib.hid hx1;clear hx1;go_enter Tryz.func178,Tryz.ntmps178
   go_wp2_with fail
   refine(kS _ _ _ Hh.out).mono ?_;rintro e w' ⟨rfl,rfl⟩;rw[hd1.out]
   go_wp2_with fail
   refine(kS _ _ _ Hh'.out).mono ?_;rintro e w' ⟨rfl,rfl⟩
   go_wp2
   go_ret;exact⟨_,rfl,Hh.out,Below.refl _ _⟩
  ·have hd2:=Lib.hid (decide_eq_false hy1)
   obtain⟨xs,A,c,rfl,h1,h2,h3,hc1,hc2,hs⟩:=h.open_;obtain⟨bs,B,d,rfl,g1,g2,g3,gc1,gc2,gs⟩:=h'.open_;have hlen:=jl.len h3 h1 hf;have glen:=jl.len g3 g1 hg;have Hh:=Lib.hid h;clear h;have Hh':=Lib.hid h';clear h';have hmk:=ye w (xs.length+bs.length) (by omega);rw[show ((xs.length+bs.length:Nat):Int)=(xs.length:Int)+bs.length from by omega] at hmk;clear hf hg hx1 hy1;have H1:=Lib.hid h1;clear h1;have G1:=Lib.hid g1;clear g1;go_enter Tryz.func178,Tryz.ntmps178
   go_wp2_with fail
   refine(kS _ _ _ Hh.out).mono ?_;rintro e w' ⟨rfl,rfl⟩;rw[hd1.out]
   go_wp2_with fail
   refine(kS _ _ _ Hh'.out).mono ?_;rintro e w' ⟨rfl,rfl⟩;rw[hd2.out]
   go_wp2
   go_loopw [6,7,22] (fun _ _ i wr=>∃(k:Nat) (L:List Nat),i = .int .i64 k∧k≤xs.length∧Hid (yW xs bs L k)∧ja wr w.heap.size 148 (jy L)∧Below w.heap.size w wr) (fun _ _ i _=>xs.length-(intOf i).toNat)
   case atStart=>exact⟨0,_,rfl,by omega,Lib.hid (yW.start xs bs),ja.make _ _ _,(Below.refl _ _).alloc (Nat.le_refl _) _⟩
   case round=>
    obtain⟨k,L,rfl,hk,hI,hO,hB⟩:=hrel;have hLl:L.length=xs.length+bs.length:=hI.out.1;by_cases hlt:k<xs.length
    ·obtain⟨b0,off,rfl,hbb,hcell⟩:=hs.at_ (k:=k) (by rw[jA];omega)
     have hck:=(hB.cell (p:=⟨b0,off+k,none⟩) hbb).trans ((hcell k (by rw[jA];omega)).trans (jL xs k (by omega)));have hwx:=jX h2 k
     have HSt:=fun L' c=>Lib.hid (yW.step (L':=L') (c:=c) hI.out hlt)
     generalize hxk:xs[k]?.getD 0=x at *;clear hcell hxk
     have hkl:k+bs.length<L.length:=by omega
     have hok:=hI.out.2.1;clear hLl
     go_wp2_with fail
     refine(Es _ bs L x k w.heap.size _ _ wr w hwx hO hok rfl (by omega) g2 gs hB (Nat.le_refl _)).mono ?_;rintro e w1 ⟨cr,L',rfl,hA,hO',hB'⟩;have hl1:L'.length=L.length:=hA.1;have hck2:=(hO'.cell (k+bs.length)).trans (jL L' (k+bs.length) (by omega));generalize L'[k+bs.length]?.getD 0=z at *;have hfr:=hO'.free (k+bs.length);have Hs2:=(HSt L' cr).out hA;have HS2:=Lib.hid Hs2;clear hA Hs2 hl1 hkl
     go_wp2
     refine⟨⟨k+1,_,by go_num,by omega,HS2,?_,(hB.trans hB').setCell (by simp) _⟩,by simp[intOf];omega⟩;rw[←kF];exact hO'.put _ _
    ·have hkk:k=xs.length:=by omega
     subst hkk;have hval:=Lib.hid hI.out.last;have hok:=hI.out.2.1;have hsl:=Lib.hid (hO.sl (xs.length+bs.length) (by rw[jA];omega) (by omega));clear hLl
     go_wp2_with (go_at_call 195;refine(zj _ _ _ _ _ hok hsl.out).mono ?_;rintro e w' ⟨v,rfl,hv,rfl⟩)
     go_ret;refine⟨v,rfl,?_,hB⟩;rw[←H1.out,←G1.out,←hval.out];exact hv
theorem Jc {x y:Nat} (h:x<y):kj x y = -1:=by unfold kj;rw[if_pos h]
theorem JB {x y:Nat} (h:y≤x):0≤kj x y:=by unfold kj;rw[if_neg (by omega)];split <;> omega
theorem Nt.one_word {w:World} {v:Value} {y:Nat} (h:Nt w v y) (h0:0<y) (hw:y<WB):
  ∃b off c,v = .slice (some ⟨b,off,none⟩) 1 c∧b<w.heap.size∧w.cell? ⟨b,off,none⟩=some (.int .u64 (y:Int)):=by
 obtain⟨ws,A,c,rfl,h1,h2,h3,hc1,hc2,hs⟩:=h.open_;have hl:ws.length≤1:=Kt h3 (n:=1) (by rw[h1,Nat.pow_one];exact hw)
 have hne:ws≠[]:=by rintro rfl;simp[jd] at h1;omega
 have hl1:ws.length=1:=by have:=List.length_pos_iff.2 hne;omega
 obtain⟨z,rfl⟩:=List.length_eq_one_iff.1 hl1
 have hz:z=y:=by simpa [jd] using h1
 subst hz;obtain⟨b,off,rfl,hb,hcell⟩:=hs.at_ (k:=0) (by simp[jy]);exact⟨b,off,c,by simp,hb,by simpa [jy] using hcell 0 (by simp[jy])⟩
theorem Nt.zero_len {w:World} {v:Value} (h:Nt w v 0):∃A c,v = .slice A 0 c:=by
 obtain⟨ws,A,c,rfl,h1,h2,h3,hc1,hc2,hs⟩:=h.open_;have:ws=[]:=(FA h3).1 h1;subst this;exact⟨A,c,rfl⟩
theorem Nt.len_ge {w:World} {v:Value} {y:Nat} (h:Nt w v y) (hw:WB≤y):∃A n c,v = .slice A n c∧2≤n∧n≤140737488355328:=by
 obtain⟨ws,A,c,rfl,h1,h2,h3,hc1,hc2,hs⟩:=h.open_;refine⟨A,ws.length,c,rfl,?_,by omega⟩;rcases Nat.lt_or_ge ws.length 2 with hl | hl
 ·have:=qQ h2
  have h4:WB^ws.length≤WB^1:=Nat.pow_le_pow_right (by decide) (by omega);rw[Nat.pow_one] at h4;omega
 ·exact hl
theorem Nt.size_ {w:World} {v:Value} {y:Nat} (h:Nt w v y):∃A n c,v = .slice A n c∧n≤140737488355328:=by
 obtain⟨ws,A,c,rfl,h1,h2,h3,hc1,hc2,hs⟩:=h.open_;exact⟨A,ws.length,c,rfl,by omega⟩
def QW (x y:Nat) (w:World) (e:Ending) (w':World):Prop:=∃q r,e = .returned (.tuple #[q,r])∧Nt w' q (x/y)∧Nt w' r (x%y)∧Below w.heap.size w w'
theorem SK (v u:Value) (x y:Nat) (w:World) (h:Nt w v x) (h':Nt w u y) (hy:0<y) (hf:jl x):
  Calls Tryz.prog 223 #[v,u] w (QW x y w):=by
 by_cases hlt:x<y
 ·have ho:=Lib.hid (Jc hlt)
  have hq:x/y=0:=Nat.div_eq_of_lt hlt;have hm:x%y=x:=Nat.mod_eq_of_lt hlt;unfold QW;rw[hq,hm];clear hq hm;obtain⟨A,n,c,hv,_⟩:=h.size_;obtain⟨B,m,d,hu,_⟩:=h'.size_;have Hh:=Lib.hid h;clear h;have Hh':=Lib.hid h';clear h';subst hv hu;go_enter Tryz.func223,Tryz.ntmps223
  go_wp2_with (first | (go_at_call 220;refine(qW _ _ _ _ _ Hh.out Hh'.out).mono ?_;rintro e w' ⟨rfl,n,rfl⟩;rw[ho.out]))
  go_ret2;exact⟨_,_,rfl,Nt.nil,Hh.out.drewN _,below_drewN (Below.refl _ _) _⟩
 ·have ho:=JB (Nat.not_lt.1 hlt)
  by_cases hw:y<WB
  ·obtain⟨A,n,c,hv,_⟩:=h.size_
   obtain⟨b,off,d,hu,hb,hcell⟩:=h'.one_word hy hw;have Hh:=Lib.hid h;clear h;have Hh':=Lib.hid h';clear h';subst hv hu;go_enter Tryz.func223,Tryz.ntmps223
   go_wp2_with fail
   refine(qW _ _ _ _ _ Hh.out Hh'.out).mono ?_;rintro e w' ⟨rfl,n,rfl⟩
   go_wp2_with fail
   refine(KJ _ x y _ (Hh.out.drewN n) hy hw hf).mono ?_;rintro e w1 ⟨q,rfl,hq,hB⟩;have hmw:x%y<WB:=Nat.lt_of_lt_of_le (Nat.mod_lt _ hy) (Nat.le_of_lt hw)
   go_wp2_with fail
   refine(Jy (x%y) _ hmw).mono ?_;rintro e w2 ⟨r,rfl,hr,hB2⟩
   go_wp2
   go_ret2;exact⟨q,r,rfl,hq.below hB2,hr,(below_drewN (Below.refl _ w) n).trans (hB.trans (hB2.mono hB.size))⟩
  ·obtain⟨A,n,c,hv,_⟩:=h.size_
   obtain⟨B,m,d,hu,hm2,_⟩:=h'.len_ge (Nat.not_lt.1 hw);have Hh:=Lib.hid h;clear h;have Hh':=Lib.hid h';clear h';subst hv hu
   have hb:((m:Int)==1)=false:=by simpa using (by omega:¬(m:Int)=1)
   go_enter Tryz.func223,Tryz.ntmps223
   go_wp2_with fail
   refine(qW _ _ _ _ _ Hh.out Hh'.out).mono ?_;rintro e w' ⟨rfl,n,rfl⟩
   go_wp2_with fail
   refine((hf.deep (by omega)).long _ _ x y _ (Hh.out.drewN n) (Hh'.out.drewN n) (Nat.not_lt.1 hw) (Nat.not_lt.1 hlt) hf.big).mono ?_;rintro e w1 ⟨q,r,rfl,hq,hr,hB⟩
   go_wp2
   go_ret2;exact⟨q,r,rfl,hq,hr,(below_drewN (Below.refl _ w) n).trans hB⟩
theorem zX (v u:Value) (x y:Nat) (w:World) (h:Nt w v x) (h':Nt w u y) (hy:0<y) (hf:jl x):
  Calls Tryz.prog 176 #[v,u] w fun e w'=>∃v,e = .returned v∧Nt w' v (x/y)∧Below w.heap.size w w':=by
 obtain⟨A,n,c,hv,_⟩:=h.size_;obtain⟨B,m,d,hu,_⟩:=h'.size_;have Hh:=Lib.hid h;clear h;have Hh':=Lib.hid h';clear h';subst hv hu;by_cases h1:y=1
 ·subst h1
  rw[Nat.div_one];go_enter Tryz.func176,Tryz.ntmps176
  go_wp2_with (first | (go_at_call 139;refine(kS _ _ _ Hh'.out).mono ?_;rintro e w' ⟨rfl,rfl⟩))
  go_ret;exact⟨_,rfl,Hh.out,Below.refl _ _⟩
 ·have hd:=Lib.hid (decide_eq_false h1)
  go_enter Tryz.func176,Tryz.ntmps176
  go_wp2_with fail
  refine(kS _ _ _ Hh'.out).mono ?_;rintro e w' ⟨rfl,rfl⟩;rw[hd.out]
  go_wp2_with fail
  refine(SK _ _ x y _ Hh.out Hh'.out hy hf).mono ?_;rintro e w1 ⟨q,r,rfl,hq,hr,hB⟩
  go_wp2
  go_ret;exact⟨q,rfl,hq,hB⟩
theorem Fi (a n:Int) (hn:1≤n): -n<a.tmod n∧a.tmod n<n:=by
 have h1:=Int.tmod_lt_of_pos a (show 0<n by omega);have h2:=Int.lt_tmod_of_pos a (show 0<n by omega);omega
theorem W9 (a n:Int) (hn:1≤n) (hn2:n≤4000000000000000000):(wrap64 (a.tmod n+n)).tmod n=a%n:=by
 have hb:=Fi a n hn;rw[IntWalk.wrap64_in _ (by omega),Int.tmod_eq_emod_of_nonneg (by omega),Int.add_emod_right];have h:=Int.mul_tdiv_add_tmod a n
 have:a%n=(n*a.tdiv n+a.tmod n)%n:=by rw[h]
 rw[this,Int.mul_add_emod_self_left]
theorem Qi (a n:Int) (w:World) (hn:1≤n) (hn2:n≤4000000000000000000):
  Calls Tryz.prog 190 #[.int .i64 a,.int .i64 n] w fun e w'=>e = .returned (.int .i64 (a%n))∧w=w':=by
 go_enter Tryz.func190,Tryz.ntmps190
 go_wp2
 go_ret;exact⟨Je (W9 a n hn hn2),rfl⟩
theorem Qs (a b:Nat) (w:World):
  Calls Tryz.prog 130 #[.int .u64 a,.int .u64 b] w fun e w'=>e = .returned (.int .u64 (Nat.gcd a b)) ∧ ∃n,w'=w.drewN n:=by
 go_enter Tryz.func130,Tryz.ntmps130
 go_wp2
 go_loopw [0,1] (fun u v wr=>∃x y n:Nat,u = .int .u64 x∧v = .int .u64 y∧Nat.gcd x y=Nat.gcd a b∧wr=w.drewN n) (fun _ v _=>(intOf v).toNat)
 case atStart=>exact⟨a,b,0,rfl,rfl,rfl,rfl⟩
 case round=>
  obtain⟨x,y,n,rfl,rfl,hg,rfl⟩:=hrel;by_cases hy:y=0
  ·subst hy
   go_wp2
   go_ret;exact⟨Je (by rw[←hg,Nat.gcd_zero_right]),n,rfl⟩
  ·have hb:((y:Int) != 0)=true:=by simpa using hy
   go_wp2
   go_quiet (fail)
   go_wp2
   go_roundw
   case rel=>exact⟨y,x%y,n+nq,rfl,by simp,by rw[←hg,Nat.gcd_comm x y,Nat.gcd_rec y x,Nat.gcd_comm],by rw[World.drewN_drewN]⟩
   case measure=>simp[intOf];exact Nat.mod_lt _ (by omega)
theorem VL (a:Int) (w:World) (h1: -9223372036854775808≤a) (h2:a≤9223372036854775807):
  Calls Tryz.prog 131 #[.int .i64 a] w fun e w'=>e = .returned (.int .u64 a.natAbs)∧w=w':=by
 by_cases h:a<0
 ·go_enter Tryz.func131,Tryz.ntmps131
  go_wp2
  go_ret;exact⟨Je (by rw[IntKind.wrap_u64,IntKind.wrap_u64];omega),rfl⟩
 ·go_enter Tryz.func131,Tryz.ntmps131
  go_wp2
  go_ret;exact⟨Je (by omega),rfl⟩
theorem ZW (a l h:Int) (w:World) (h1:l≤a) (h2:a≤h):
  Calls Tryz.prog 132 #[.int .i64 a,.int .i64 l,.int .i64 h] w fun e w'=>e = .returned (.int .i64 0)∧w=w':=by
 go_enter Tryz.func132,Tryz.ntmps132
 go_wp2
 go_ret;exact⟨rfl,rfl⟩
theorem ZV (a l h:Int) (w:World) (h1:a<l∨h<a):
  Calls Tryz.prog 132 #[.int .i64 a,.int .i64 l,.int .i64 h] w fun e w'=>e = .returned (.int .i64 3)∧w=w':=by
 by_cases h2:a<l
 ·go_enter Tryz.func132,Tryz.ntmps132
  go_wp2
  go_ret;exact⟨rfl,rfl⟩
 ·have h3:h<a:=by omega
  go_enter Tryz.func132,Tryz.ntmps132
  go_wp2
  go_ret;exact⟨rfl,rfl⟩
theorem Rc (a:Int) (w:World) (h1: -999999999≤a) (h2:a≤999999999):
  Calls Tryz.prog 129 #[.int .i64 a] w fun e w'=>e = .returned (.int .i64 0)∧w=w':=by
 go_enter Tryz.func129,Tryz.ntmps129
 go_wp2_with (go_at_call 132;refine(ZW _ _ _ _ h1 h2).mono ?_;rintro e w' ⟨rfl,rfl⟩)
 go_ret;exact⟨rfl,rfl⟩
theorem Rb (a:Int) (w:World) (h:a < -999999999∨999999999<a):
  Calls Tryz.prog 129 #[.int .i64 a] w fun e w'=>e = .returned (.int .i64 3)∧w=w':=by
 go_enter Tryz.func129,Tryz.ntmps129
 go_wp2_with (go_at_call 132;refine(ZV _ _ _ _ h).mono ?_;rintro e w' ⟨rfl,rfl⟩)
 go_ret;exact⟨rfl,rfl⟩
theorem TF (v u:Value) (x y:Nat) (w:World) (h:Nt w v x) (h':Nt w u y) (hw:y<WB) (hle:y≤x) (hf:jl x):
  Calls Tryz.prog 172 #[v,u] w fun e w'=>∃g,e = .returned g∧Nt w' g (Nat.gcd x y)∧Below w.heap.size w w':=by
 obtain⟨A,n,c,hv,_⟩:=h.size_;have ho:=JB hle;by_cases h0:y=0
 ·subst h0
  rw[Nat.gcd_zero_right];obtain⟨B,d,hu⟩:=h'.zero_len;have Hh:=Lib.hid h;clear h;have Hh':=Lib.hid h';clear h';subst hv hu;go_enter Tryz.func172,Tryz.ntmps172
  go_wp2_with fail
  refine(qW _ _ _ _ _ Hh.out Hh'.out).mono ?_;rintro e w' ⟨rfl,k,rfl⟩
  go_wp2
  refine wp_loop_rounds 1 ?_;rw[rounds_succ]
  go_wp2
  go_ret;exact⟨_,rfl,Hh.out.drewN k,below_drewN (Below.refl _ _) k⟩
 ·obtain⟨b,off,d,hu,hb,hcell⟩:=h'.one_word (by omega) hw
  have Hh:=Lib.hid h;clear h;have Hh':=Lib.hid h';clear h';subst hv hu;by_cases h1:y=1
  ·subst h1
   rw[Nat.gcd_one_right];go_enter Tryz.func172,Tryz.ntmps172
   go_wp2_with fail
   refine(qW _ _ _ _ _ Hh.out Hh'.out).mono ?_;rintro e w' ⟨rfl,k,rfl⟩
   go_wp2
   refine wp_loop_rounds 1 ?_;rw[rounds_succ]
   go_wp2_with fail
   refine(kS _ 1 _ (Hh'.out.drewN k)).mono ?_;rintro e w' ⟨rfl,rfl⟩
   go_wp2
   go_ret;exact⟨_,rfl,Hh'.out.drewN k,below_drewN (Below.refl _ _) k⟩
  ·have hd:=Lib.hid (decide_eq_false h1)
   have Hf:=Lib.hid hf;clear hf;go_enter Tryz.func172,Tryz.ntmps172
   go_wp2_with fail
   refine(qW _ _ _ _ _ Hh.out Hh'.out).mono ?_;rintro e w' ⟨rfl,k,rfl⟩
   go_wp2
   refine wp_loop_rounds 1 ?_;rw[rounds_succ]
   go_wp2_with fail
   refine(kS _ y _ (Hh'.out.drewN k)).mono ?_;rintro e w' ⟨rfl,rfl⟩;rw[hd.out]
   go_wp2_with fail
   refine(KJ _ x y _ (Hh.out.drewN k) (by omega) hw Hf.out).mono ?_;rintro e w1 ⟨q,rfl,hq,hB⟩;have hcell1:w1.cell? ⟨b,off,none⟩=some (.int .u64 (y:Int)):=(hB.cell (p:=⟨b,off,none⟩) hb).trans hcell
   go_wp2_with fail
   refine(Qs y (x%y) _).mono ?_;rintro e w2 ⟨rfl,m,rfl⟩
   have hg:Nat.gcd y (x%y)=Nat.gcd x y:=by rw[Nat.gcd_comm y,←Nat.gcd_rec,Nat.gcd_comm]
   rw[hg];have hgw:Nat.gcd x y<WB:=Nat.lt_of_le_of_lt (Nat.gcd_le_right x (by omega)) hw
   go_wp2_with fail
   refine(Jy (Nat.gcd x y) _ hgw).mono ?_;rintro e w3 ⟨r,rfl,hr,hB2⟩
   go_wp2
   go_ret;exact⟨r,rfl,hr,(below_drewN (Below.refl _ w) k).trans (hB.trans ((below_drewN (Below.refl _ w1) m).trans hB2 |>.mono hB.size))⟩
theorem Vp (v u:Value) (x y:Nat) (w:World) (h:Nt w v x) (h':Nt w u y) (hw:y<WB) (hle:y<x) (hf:jl x):
  Calls Tryz.prog 172 #[u,v] w fun e w'=>∃g,e = .returned g∧Nt w' g (Nat.gcd x y)∧Below w.heap.size w w':=by
 obtain⟨A,n,c,hv,_⟩:=h.size_;have ho:=Lib.hid (Jc hle);by_cases h0:y=0
 ·subst h0
  rw[Nat.gcd_zero_right];obtain⟨B,d,hu⟩:=h'.zero_len;have Hh:=Lib.hid h;clear h;have Hh':=Lib.hid h';clear h';subst hv hu;go_enter Tryz.func172,Tryz.ntmps172
  go_wp2_with fail
  refine(qW _ _ _ _ _ Hh'.out Hh.out).mono ?_;rintro e w' ⟨rfl,k,rfl⟩;rw[ho.out]
  go_wp2
  refine wp_loop_rounds 1 ?_;rw[rounds_succ]
  go_wp2
  go_ret;exact⟨_,rfl,Hh.out.drewN k,below_drewN (Below.refl _ _) k⟩
 ·obtain⟨b,off,d,hu,hb,hcell⟩:=h'.one_word (by omega) hw
  have Hh:=Lib.hid h;clear h;have Hh':=Lib.hid h';clear h';subst hv hu;by_cases h1:y=1
  ·subst h1
   rw[Nat.gcd_one_right];go_enter Tryz.func172,Tryz.ntmps172
   go_wp2_with fail
   refine(qW _ _ _ _ _ Hh'.out Hh.out).mono ?_;rintro e w' ⟨rfl,k,rfl⟩;rw[ho.out]
   go_wp2
   refine wp_loop_rounds 1 ?_;rw[rounds_succ]
   go_wp2_with fail
   refine(kS _ 1 _ (Hh'.out.drewN k)).mono ?_;rintro e w' ⟨rfl,rfl⟩
   go_wp2
   go_ret;exact⟨_,rfl,Hh'.out.drewN k,below_drewN (Below.refl _ _) k⟩
  ·have hd:=Lib.hid (decide_eq_false h1)
   have Hf:=Lib.hid hf;clear hf;go_enter Tryz.func172,Tryz.ntmps172
   go_wp2_with fail
   refine(qW _ _ _ _ _ Hh'.out Hh.out).mono ?_;rintro e w' ⟨rfl,k,rfl⟩;rw[ho.out]
   go_wp2
   refine wp_loop_rounds 1 ?_;rw[rounds_succ]
   go_wp2_with fail
   refine(kS _ y _ (Hh'.out.drewN k)).mono ?_;rintro e w' ⟨rfl,rfl⟩;rw[hd.out]
   go_wp2_with fail
   refine(KJ _ x y _ (Hh.out.drewN k) (by omega) hw Hf.out).mono ?_;rintro e w1 ⟨q,rfl,hq,hB⟩;have hcell1:w1.cell? ⟨b,off,none⟩=some (.int .u64 (y:Int)):=(hB.cell (p:=⟨b,off,none⟩) hb).trans hcell
   go_wp2_with fail
   refine(Qs y (x%y) _).mono ?_;rintro e w2 ⟨rfl,m,rfl⟩
   have hg:Nat.gcd y (x%y)=Nat.gcd x y:=by rw[Nat.gcd_comm y,←Nat.gcd_rec,Nat.gcd_comm]
   rw[hg];have hgw:Nat.gcd x y<WB:=Nat.lt_of_le_of_lt (Nat.gcd_le_right x (by omega)) hw
   go_wp2_with fail
   refine(Jy (Nat.gcd x y) _ hgw).mono ?_;rintro e w3 ⟨r,rfl,hr,hB2⟩
   go_wp2
   go_ret;exact⟨r,rfl,hr,(below_drewN (Below.refl _ w) k).trans (hB.trans ((below_drewN (Below.refl _ w1) m).trans hB2 |>.mono hB.size))⟩
theorem zZ (v u:Value) (x y:Nat) (w:World) (h:Nt w v x) (h':Nt w u y) (hf:jl x) (hg:jl y):
  Calls Tryz.prog 172 #[v,u] w fun e w'=>∃g,e = .returned g∧Nt w' g (Nat.gcd x y)∧Below w.heap.size w w':=by
 rcases Nat.lt_or_ge y WB with hy | hy
 ·rcases Nat.lt_or_ge x y with hxy | hxy
  ·rw[Nat.gcd_comm]
   exact Vp u v y x w h' h (by omega) hxy hg
  ·exact TF v u x y w h h' hy hxy hf
 ·rcases Nat.lt_or_ge x WB with hx | hx
  ·rw[Nat.gcd_comm]
   exact Vp u v y x w h' h hx (by omega) hg
  ·exact(hf.deep hx).gcd v u x y w h h' hx hy hf.big hg.big
end Go.Proofs.YtneafcdfnhnpnaaGreatDoor
namespace Go.Proofs.YtneafcdfnhnpnaaGreatDoor
open Go.RowKit Go.Sort Go.Lib
def jH (w:World):Prop:=TabBelow Tryz.prog w.heap.size w "internal/strconv.uint64pow10" .u64 pow10Tab ∧ ∃m,2<w.heap.size∧w.cell? ⟨2,0,none⟩=some (.int .i64 m)
theorem jH.below {w w':World} (h:jH w) (hb:Below w.heap.size w w'):jH w':=by
 obtain⟨h1,m,h2,h3⟩:=h;exact⟨fun w2 hw2=>h1 w2 (hb.trans (hw2.mono hb.size)),m,Nat.lt_of_lt_of_le h2 hb.size,(hb.cell (p:=⟨2,0,none⟩) h2).trans h3⟩
theorem Tv (u:Nat) (w:World) (hu:u<WB) (hG:jH w):
  Calls Tryz.prog 250 #[.int .u64 u,.int .i64 10] w fun e w'=>e = .returned (.string ⟨(decDigits u).toArray⟩)∧Below w.heap.size w w':=by
 unfold WB at hu;by_cases hs:u<100
 ·go_enter Tryz.func250,Tryz.ntmps250
  go_wp2_with (go_at_call 276;refine(Tryz.internal_strconv_small u hs _).mono ?_;rintro e w' ⟨rfl,rfl⟩)
  go_ret;exact⟨rfl,Below.refl _ _⟩
 ·have hu1:1≤u:=by omega
  have hnd20:nDigits u≤20:=by have:=numDigits_eq u hu1 hu;split at this <;> omega
  have hal:Tryz.prog.arrayLen 305=24:=by kernel_rfl
  have hsl1:∀W,(Instr.sliceAt 305 (.pointer (some ⟨w.heap.size,0,none⟩)) none (some (.int .i64 ((nDigits u:Nat):Int))) none).run Tryz.prog W = .ok (.slice (some ⟨w.heap.size,0,none⟩) (nDigits u) 24) W:=fun W=>by
   rw[run_sliceAt_array_h W 305 ⟨w.heap.size,0,none⟩ (by kernel_rfl) .i64 ((nDigits u:Nat):Int) (by omega) (by rw[hal];omega)]
   go_simp
  have hH0:=holds_zero0 w 305 (nDigits u) (by omega);have hfmt:=Tryz.internal_strconv_formatBase10 w.heap.size 0 24 u (Array.replicate (nDigits u) 0) (w.alloc (.cells zeros24 305)) hH0 (by rw[Array.size_replicate];exact lt_pow_nDigits u) hu (by rw[Array.size_replicate];omega);rw[Array.size_replicate] at hfmt;have HH0:=hid hH0;have HF:=hid hfmt;clear hH0 hal hfmt;go_enter Tryz.func250,Tryz.ntmps250
  go_wp2_with (go_at_call 277;refine(Tryz.internal_strconv_numDigits u hu1 hu _ (hG.1 _ ((Below.refl _ _).alloc (Nat.le_refl _) _))).mono ?_;rintro e w' ⟨rfl,rfl⟩)
  refine HF.out.mono ?_;rintro e w' ⟨rfl,k,v',dk,rfl,hF⟩
  have hcv:(convert 285 9 (.slice (some ⟨w.heap.size,0,none⟩) (nDigits u) 24)).run Tryz.prog ((putRow (fun (b:UInt8)=>Value.int .u8 (b.toNat:Int)) (w.alloc (.cells zeros24 305)) w.heap.size 0 dk).drewN k) = .ok (.string ⟨(decDigits u).toArray⟩) ((putRow (fun (b:UInt8)=>Value.int .u8 (b.toNat:Int)) (w.alloc (.cells zeros24 305)) w.heap.size 0 dk).drewN k):=by
   have h:=run_convert_bytes_back (P:=Tryz.prog) ((putRow (fun (b:UInt8)=>Value.int .u8 (b.toNat:Int)) (w.alloc (.cells zeros24 305)) w.heap.size 0 dk).drewN k) 285 9 5 ⟨w.heap.size,0,none⟩ 24 (decDigits u) Tryz.underlying285 Tryz.underlying5 Tryz.underlying9 (fun j hj=>by
    rw[row_is_numeral hF j hj,add_plain,World.cell?_drewN]
    exact cell?_putRow (fun (b:UInt8)=>Value.int .u8 (b.toNat:Int)) _ w.heap.size 0 _ dk HH0.out (by rw[hF.size,Array.size_replicate]) j (by rw[hF.size];rw[decDigits_length] at hj;exact hj))
   rw[decDigits_length] at h;exact h
  go_wp2
  go_ret;refine⟨rfl,?_⟩;exact below_drewN (below_putRow (q:=0) ((Below.refl _ w).alloc (Nat.le_refl _) _) (Nat.le_refl _)) k
theorem Vo (u:Nat) (w:World) (hu:u<WB) (hG:jH w):
  Calls Tryz.prog 232 #[.int .u64 u,.int .i64 10] w fun e w'=>e = .returned (.string ⟨(decDigits u).toArray⟩)∧Below w.heap.size w w':=by
 go_enter Tryz.func232,Tryz.ntmps232
 go_wp2_with (go_at_call 250;refine(Tv u _ hu hG).mono ?_;rintro e w' ⟨rfl,hB⟩)
 go_ret;exact⟨rfl,hB⟩
