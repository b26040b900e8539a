/- Blocks of memory that a call has made and knows whole. -/
import Derived.Test.YtneafcdfnhnpnaaGreatDoorZD02
import Derived.Test.YtneafcdfnhnpnaaGreatDoorZD05
set_option maxRecDepth 100000
set_option maxHeartbeats 2000000
namespace Go.Proofs.YtneafcdfnhnpnaaGreatDoor
open Go.RowKit
def ja (w:World) (g:Nat) (t:TypeId) (cs:List Value):Prop:=w.heap[g]? =some (.cells cs.toArray t (0,0))
section
variable {w w':World} {g:Nat} {t:TypeId} {cs:List Value}
theorem ja.lt (h:ja w g t cs):g<w.heap.size:=by
 rcases Nat.lt_or_ge g w.heap.size with hlt | hge
 ·exact hlt
 ·unfold ja at h;rw[Array.getElem?_eq_none hge] at h;cases h
theorem ja.cell (h:ja w g t cs) (i:Nat):w.cell? ⟨g,i,none⟩=cs[i]? :=by
 rw[cell_of_row w g i cs.toArray t (0,0) h];simp
theorem ja.free (h:ja w g t cs) (i:Nat):w.frozen? ⟨g,i,none⟩=false:=by
 unfold ja at h;simp[World.frozen?,h]
theorem ja.make (w:World) (t:TypeId) (cs:List Value):ja (w.alloc (.cells cs.toArray t)) w.heap.size t cs:=heap_alloc_new w _
theorem ja.drewN (h:ja w g t cs) (n:Nat):ja (w.drewN n) g t cs:=h
theorem ja.alloc (h:ja w g t cs) (o:Obj):ja (w.alloc o) g t cs:=(Below.heap_alloc w o g h.lt).trans h
theorem ja.put (h:ja w g t cs) (i:Nat) (u:Value):ja (w.setCell ⟨g,i,none⟩ u) g t (cs.set i u):=by
 unfold ja at h ⊢;simp[World.setCell,Array.getElem?_modify,h]
theorem ja.other (h:ja w g t cs) {p:Addr} (hp:g≠p.block) (u:Value):ja (w.setCell p u) g t cs:=(Below.heap_setCell w p u g hp).trans h
theorem ja.below {B:Nat} (h:ja w g t cs) (hb:Below B w w') (hg:g<B):ja w' g t cs:=(hb.block g hg).trans h
theorem ja.sl (h:ja w g t cs) (n:Nat) (hn:cs.length=n) (hs:n≤140737488355328):Sl w 1 (.slice (some ⟨g,0,none⟩) n n) cs:=by
 refine⟨_,n,n,rfl,by omega,hs,by omega,fun _=>⟨g,0,rfl,h.lt,fun j u hu=> ?_⟩⟩;rw[Nat.zero_add,h.cell,hu]
end
theorem zY (z:Value) (n:Nat):madeCells #[z] n=(List.replicate n z).toArray:=by
 rw[←toList_madeCells_one]
theorem C3 (n:Nat):List.replicate n (Value.int .u64 0)=jv (List.replicate n 0):=by simp[jv]
theorem kG (L:List Nat) (k x:Nat):(jv L).set k (.int .u64 (x:Int))=jv (L.set k x):=by simp[jv,List.map_set]
theorem jM (ws:List Nat) (k:Nat) (h:k<ws.length):(jv ws)[k]? =some (Value.int .u64 ((ws[k]?.getD 0:Nat):Int)):=by simp[jv,h]
theorem Dd:(Tryz.prog.info? 148).map (fun i=>(i.zero,i.size,i.bytes))=some (some (.int .u64 0),1,8):=by kernel_rfl
theorem yf (w:World) (n:Nat) (hn:n≤17592186044416):(Instr.makeSlice 120 (.int .i64 (n:Int)) (.int .i64 (n:Int))).run Tryz.prog w = .ok (.slice (some ⟨w.heap.size,0,none⟩) n n) (w.alloc (.cells (jv (List.replicate n 0)).toArray 148)):=by
 have:=run_make_row' (P:=Tryz.prog) 120 148 (.int .u64 0) 8 Tryz.underlying120 Dd rfl .i64 .i64 n (by omega) (by omega) w;rw[zY,C3] at this;exact this
theorem ZJ (x y b:Nat) (hx:x<WB) (hy:y<WB) (hb:b≤1):
  ∃d br:Nat,((x:Int)-y-b)%18446744073709551616=d∧yZ x ((y:Int)+b)=br∧d<WB∧br≤1∧x+WB*br=d+y+b:=by
 unfold WB at *;refine⟨(((x:Int)-y-b)%18446744073709551616).toNat,if (x:Int)<y+b then 1 else 0,by omega,?_,by omega,?_,?_⟩
 ·unfold yZ;split <;> rfl
 ·split <;> omega
 ·split <;> omega
theorem G0 (x b:Nat) (hx:x<WB) (hb:b≤1):
  ∃d br:Nat,((x:Int)-b)%18446744073709551616=d∧yZ x (b:Int)=br∧d<WB∧br≤1∧x+WB*br=d+0+b:=by
 have:=ZJ x 0 b hx (by decide) hb;simpa using this
theorem X6 (x y c:Nat) (hx:x<WB) (hy:y<WB) (hb:c≤1):
  ∃d k:Nat,((x:Int)+y+c)%18446744073709551616=d∧((x:Int)+y+c)/18446744073709551616=k∧d<WB∧k≤1∧x+y+c=d+WB*k:=by
 unfold WB at *;exact⟨(x+y+c)%18446744073709551616,(x+y+c)/18446744073709551616,by omega,by omega,by omega,by omega,by omega⟩
theorem JV (x c:Nat) (hx:x<WB) (hb:c<WB):
  ∃d k:Nat,((x:Int)+c)%18446744073709551616=d∧((x:Int)+c)/18446744073709551616=k∧d<WB∧k≤1∧x+c=d+WB*k:=by
 unfold WB at *;exact⟨(x+c)%18446744073709551616,(x+c)/18446744073709551616,by omega,by omega,by omega,by omega,by omega⟩
@[irreducible] def y8:Nat:=8000000000000
theorem Q7:y8≤8000000000000:=by unfold y8;exact Nat.le_refl _
theorem Vm:8000000000000≤y8:=by unfold y8;exact Nat.le_refl _
def kq (x:Nat):Prop:=x<WB^y8
structure Jh:Prop where
 div:MV
 long:∀(v u:Value) (x y:Nat) (w:World),Nt w v x→Nt w u y→WB≤y→y≤x→kq x →
  Calls Tryz.prog 247 #[v,u] w fun e w'=>∃q r,e = .returned (.tuple #[q,r])∧Nt w' q (x/y)∧Nt w' r (x%y)∧Below w.heap.size w w'
 gcd:∀(v u:Value) (x y:Nat) (w:World),Nt w v x→Nt w u y→WB≤x→WB≤y→kq x→kq y →
  Calls Tryz.prog 172 #[v,u] w fun e w'=>∃g,e = .returned g∧Nt w' g (Nat.gcd x y)∧Below w.heap.size w w'
def jl (x:Nat):Prop:=x<WB∨(Jh∧kq x)
theorem jl.small {x:Nat} (h:x<WB):jl x:= .inl h
theorem jl.big {x:Nat} (h:jl x):kq x:=by
 rcases h with h | h
 ·have h1:WB^1≤WB^y8:=Nat.pow_le_pow_right (by decide) (Nat.le_trans (by decide) Vm)
  rw[Nat.pow_one] at h1;exact Nat.lt_of_lt_of_le h h1
 ·exact h.2
theorem jl.deep {x:Nat} (h:jl x) (hx:WB≤x):Jh:=by
 rcases h with h | h
 ·omega
 ·exact h.1
theorem jl.le {x y:Nat} (h:jl x) (hle:y≤x):jl y:=by
 rcases h with h | h
 ·exact .inl (Nat.lt_of_le_of_lt hle h)
 ·exact .inr ⟨h.1,Nat.lt_of_le_of_lt hle h.2⟩
theorem jl.len {ws:List Nat} (h:kn ws) {x:Nat} (hx:jc ws=x) (hf:jl x):ws.length≤8000000000000:=
 Nat.le_trans (Kr h (by rw[hx];exact hf.big)) Q7
theorem jl.words {ws:List Nat} (h:kn ws) {x:Nat} (hx:jc ws=x) (hf:jl x):ws.length≤1∨Jh:=by
 rcases hf with hf | hf
 ·exact .inl (Kr h (n:=1) (by rw[hx,Nat.pow_one];exact hf))
 ·exact .inr hf.1
def qt (n:Nat):Prop:=n≤19∨Jh
theorem qt.le {n m:Nat} (h:qt n) (hm:m≤n):qt m:=by
 rcases h with h | h
 ·exact .inl (by omega)
 ·exact .inr h
theorem jl.of_pow {x k:Nat} (h:x<10^k) (hd:qt k) (hk:k≤8000000000000):jl x:=by
 rcases hd with hd | hd
 ·refine .inl (Nat.lt_of_lt_of_le h ?_)
  have:10^k≤10^19:=Nat.pow_le_pow_right (by decide) hd;exact Nat.le_trans this (by decide)
 ·refine .inr ⟨hd,?_⟩
  have h1:10^k≤WB^k:=Nat.pow_le_pow_left (by decide) k;have h2:WB^k≤WB^y8:=Nat.pow_le_pow_right (by decide) (Nat.le_trans hk Vm);exact Nat.lt_of_lt_of_le h (Nat.le_trans h1 h2)
theorem Tk (hi lo y q r:Nat) (w:World) (hd:hi=0∨Jh) (h1:hi<y) (h2:lo<WB) (h3:y<WB) (h4:hi*WB+lo=q*y+r) (h5:r<y):
  Calls Tryz.prog 234 #[.int .u64 hi,.int .u64 lo,.int .u64 y] w fun e w'=>e = .returned (.tuple #[.int .u64 q,.int .u64 r]) ∧ ∃n,w'=w.drewN n:=by
 rcases hd with rfl | hd
 ·exact UU lo y q r w h2 (by omega) h5
 ·exact hd.div hi lo y q r w h1 h2 h3 h4 h5
theorem VZ (v u:Value) (x y:Nat) (w:World) (h:Nt w v x) (h':Nt w u y) (hle:y≤x) (hf:jl x):
  Calls Tryz.prog 229 #[v,u] w fun e w'=>∃v,e = .returned v∧Nt w' v (x-y)∧Below w.heap.size w w':=by
 obtain⟨xs,A,c,rfl,h1,h2,h3,hc1,hc2,hs⟩:=h.open_;obtain⟨bs,B,d,rfl,g1,g2,g3,gc1,gc2,gs⟩:=h'.open_;have hlen:=jl.len h3 h1 hf;subst h1 g1
 have hbl:bs.length≤xs.length:=by
  rcases Nat.lt_or_ge xs.length bs.length with hl | hl
  ·have:=Ku h2 g3 hl;omega
  ·exact hl
 have hmk:=yf w xs.length (by omega);clear h h';go_enter Tryz.func229,Tryz.ntmps229
 go_wp2
 go_loopw [6,7,8,15] (fun br _ _ i wr=>∃(k b:Nat) (L:List Nat),i = .int .i64 k∧br = .int .u64 b∧k≤bs.length∧Hid (qX xs bs L k b)∧ja wr w.heap.size 148 (jv L)∧Below w.heap.size w wr) (fun _ _ _ i _=>bs.length-(intOf i).toNat)
 case atStart=>exact⟨0,0,_,rfl,rfl,by omega,Lib.hid (qX.start xs bs),ja.make _ _ _,(Below.refl _ _).alloc (Nat.le_refl _) _⟩
 case round=>
  obtain⟨k,b,L,rfl,rfl,hk,hI,hO,hB⟩:=hrel;have hb1:b≤1:=hI.out.2.2.1;have hLl:L.length=xs.length:=hI.out.1;by_cases hlt:k<bs.length
  ·obtain⟨b0,off,rfl,hbb,hcell⟩:=hs.at_ (k:=k) (by rw[jy];omega)
   obtain⟨b1,off1,rfl,hbb1,hcell1⟩:=gs.at_ (k:=k) (by rw[jy];omega);have hck:=(hB.cell (p:=⟨b0,off+k,none⟩) hbb).trans ((hcell k (by rw[jy];omega)).trans (jM xs k (by omega)));have hck1:=(hB.cell (p:=⟨b1,off1+k,none⟩) hbb1).trans ((hcell1 k (by rw[jy];omega)).trans (jM bs k (by omega)));have hck2:=(hO.cell k).trans (jM L k (by omega));have hfr:=hO.free k;have hwx:=j5 h2 k;have hwy:=j5 g2 k
   have Hst:=fun d br' a1 a2 a3=>Lib.hid (qX.step hI.out (d:=d) (br':=br') (by omega) a1 a2 a3)
   generalize xs[k]?.getD 0=x at *;generalize bs[k]?.getD 0=y at *;generalize L[k]?.getD 0=z at *;clear hcell hcell1 hs gs hLl;unfold WB at hwx hwy
   have hlk:k<xs.length:=by omega
   go_wp2_with (first | simp only[XF (x:Int) (y:Int) (b:Int) (by omega) (by omega) (by omega) (by omega) (by omega) (by omega)])
   obtain⟨d,br,e1,e2,a1,a2,a3⟩:=ZJ x y b hwx hwy hb1;rw[e1,e2];refine⟨⟨k+1,br,_,by go_num,rfl,by omega,Hst d br a1 a2 a3,?_,hB.setCell (by simp) _⟩,by simp[intOf];omega⟩;rw[←kG];exact hO.put k _
  ·have hkk:k=bs.length:=by omega
   subst hkk
   go_wp2
   go_loopw [6,9] (fun br i wr=>∃(k b:Nat) (L:List Nat),i = .int .i64 k∧br = .int .u64 b∧bs.length≤k∧k≤xs.length∧Hid (qX xs bs L k b)∧ja wr w.heap.size 148 (jv L)∧Below w.heap.size w wr) (fun _ i _=>xs.length-(intOf i).toNat)
   case atStart=>exact⟨bs.length,b,L,rfl,rfl,by omega,by omega,hI,hO,hB⟩
   case round=>
    clear hI hO hB hb1 hLl;obtain⟨k,b,L,rfl,rfl,hk1,hk,hI,hO,hB⟩:=hrel;have hb1:b≤1:=hI.out.2.2.1;have hLl:L.length=xs.length:=hI.out.1;by_cases hlt:k<xs.length
    ·obtain⟨b0,off,rfl,hbb,hcell⟩:=hs.at_ (k:=k) (by rw[jy];omega)
     have hck:=(hB.cell (p:=⟨b0,off+k,none⟩) hbb).trans ((hcell k (by rw[jy];omega)).trans (jM xs k (by omega)));have hck2:=(hO.cell k).trans (jM L k (by omega));have hfr:=hO.free k;have hwx:=j5 h2 k
     have hz:bs[k]?.getD 0=0:=by rw[List.getElem?_eq_none (by omega)];rfl
     have Hst:=fun d br' a1 a2 a3=>Lib.hid (qX.step hI.out (d:=d) (br':=br') (by omega) a1 a2 a3)
     rw[hz] at Hst;clear hz;generalize xs[k]?.getD 0=x at *;generalize L[k]?.getD 0=z at *;clear hcell hs gs hLl;unfold WB at hwx
     go_wp2_with (first | simp only[GY (x:Int) (b:Int) (by omega) (by omega) (by omega) (by omega)])
     obtain⟨d,br,e1,e2,a1,a2,a3⟩:=G0 x b hwx hb1;rw[e1,e2];refine⟨⟨k+1,br,_,by go_num,rfl,by omega,by omega,Hst d br a1 a2 a3,?_,hB.setCell (by simp) _⟩,by simp[intOf];omega⟩;rw[←kG];exact hO.put k _
    ·have hkk:k=xs.length:=by omega
     subst hkk;have hval:=Lib.hid (hI.out.last hbl hle);have hok:=hI.out.2.1;have hsl:=hO.sl xs.length (by rw[jy];omega) (by omega)
     go_wp2_with (go_at_call 195;refine(zh _ _ _ _ _ hok hsl).mono ?_;rintro e w' ⟨v,rfl,hv,rfl⟩)
     go_ret;refine⟨v,rfl,?_,hB⟩;rw[←hval.out];exact hv
theorem Bn (v u:Value) (x y:Nat) (xs bs:List Nat) (A B:Option Addr) (c d:Nat) (w:World) (hv:v = .slice A xs.length c) (hu:u = .slice B bs.length d) (h1:jc xs=x) (h2:jJ xs) (g1:jc bs=y) (g2:jJ bs)
  (hs:Sl w 1 (.slice A xs.length c) (jv xs)) (gs:Sl w 1 (.slice B bs.length d) (jv bs)) (hbl:bs.length≤xs.length) (hlen:xs.length≤8000000000000):
  Calls Tryz.prog 228 #[v,u] w fun e w'=>∃v,e = .returned v∧Nt w' v (x+y)∧Below w.heap.size w w':=by
 subst hv hu h1 g1;have hmk:=yf w (xs.length+1) (by omega);rw[show ((xs.length+1:Nat):Int)=(xs.length:Int)+1 from by omega] at hmk
 have hdl:decide (xs.length<bs.length)=false:=by simpa using hbl
 go_enter Tryz.func228,Tryz.ntmps228
 go_wp2
 go_loopw [6,7,8,23] (fun cr _ _ i wr=>∃(k b:Nat) (L:List Nat),i = .int .i64 k∧cr = .int .u64 b∧k≤bs.length∧Hid (qU xs bs L k b)∧ja wr w.heap.size 148 (jv L)∧Below w.heap.size w wr) (fun _ _ _ i _=>bs.length-(intOf i).toNat)
 case atStart=>exact⟨0,0,_,rfl,rfl,by omega,Lib.hid (qU.start xs bs),ja.make _ _ _,(Below.refl _ _).alloc (Nat.le_refl _) _⟩
 case round=>
  obtain⟨k,b,L,rfl,rfl,hk,hI,hO,hB⟩:=hrel;have hb1:b≤1:=hI.out.2.2.1;have hLl:L.length=xs.length+1:=hI.out.1;by_cases hlt:k<bs.length
  ·obtain⟨b0,off,rfl,hbb,hcell⟩:=hs.at_ (k:=k) (by rw[jy];omega)
   obtain⟨b1,off1,rfl,hbb1,hcell1⟩:=gs.at_ (k:=k) (by rw[jy];omega);have hck:=(hB.cell (p:=⟨b0,off+k,none⟩) hbb).trans ((hcell k (by rw[jy];omega)).trans (jM xs k (by omega)));have hck1:=(hB.cell (p:=⟨b1,off1+k,none⟩) hbb1).trans ((hcell1 k (by rw[jy];omega)).trans (jM bs k (by omega)));have hck2:=(hO.cell k).trans (jM L k (by omega));have hfr:=hO.free k;have hwx:=j5 h2 k;have hwy:=j5 g2 k
   have Hst:=fun d br' a1 a2 a3=>Lib.hid (qU.step hI.out (d:=d) (c':=br') (by omega) a1 a2 a3)
   generalize xs[k]?.getD 0=x at *;generalize bs[k]?.getD 0=y at *;generalize L[k]?.getD 0=z at *;clear hcell hcell1 hs gs hLl;unfold WB at hwx hwy
   have hlk:k<xs.length:=by omega
   go_wp2_with (first | simp only[Ky (x:Int) (y:Int) (b:Int) (by omega) (by omega) (by omega) (by omega) (by omega) (by omega)])
   obtain⟨d,br,e1,e2,a1,a2,a3⟩:=X6 x y b hwx hwy hb1;rw[e1,e2];refine⟨⟨k+1,br,_,by go_num,rfl,by omega,Hst d br a1 a2 a3,?_,hB.setCell (by simp) _⟩,by simp[intOf];omega⟩;rw[←kG];exact hO.put k _
  ·have hkk:k=bs.length:=by omega
   subst hkk
   go_wp2
   go_loopw [6,9] (fun br i wr=>∃(k b:Nat) (L:List Nat),i = .int .i64 k∧br = .int .u64 b∧bs.length≤k∧k≤xs.length∧Hid (qU xs bs L k b)∧ja wr w.heap.size 148 (jv L)∧Below w.heap.size w wr) (fun _ i _=>xs.length-(intOf i).toNat)
   case atStart=>exact⟨bs.length,b,L,rfl,rfl,by omega,by omega,hI,hO,hB⟩
   case round=>
    clear hI hO hB hb1 hLl;obtain⟨k,b,L,rfl,rfl,hk1,hk,hI,hO,hB⟩:=hrel;have hb1:b≤1:=hI.out.2.2.1;have hLl:L.length=xs.length+1:=hI.out.1;by_cases hlt:k<xs.length
    ·obtain⟨b0,off,rfl,hbb,hcell⟩:=hs.at_ (k:=k) (by rw[jy];omega)
     have hck:=(hB.cell (p:=⟨b0,off+k,none⟩) hbb).trans ((hcell k (by rw[jy];omega)).trans (jM xs k (by omega)));have hck2:=(hO.cell k).trans (jM L k (by omega));have hfr:=hO.free k;have hwx:=j5 h2 k
     have hz:bs[k]?.getD 0=0:=by rw[List.getElem?_eq_none (by omega)];rfl
     have Hst:=fun d br' a1 a2 a3=>Lib.hid (qU.step hI.out (d:=d) (c':=br') (by omega) a1 a2 a3)
     rw[hz] at Hst;clear hz;generalize xs[k]?.getD 0=x at *;generalize L[k]?.getD 0=z at *;clear hcell hs gs hLl;unfold WB at hwx
     go_wp2_with (first | simp only[Um (x:Int) (b:Int) (by omega) (by omega) (by omega) (by omega)])
     obtain⟨d,br,e1,e2,a1,a2,a3⟩:=JV x b hwx (by unfold WB;omega);rw[e1,e2];refine⟨⟨k+1,br,_,by go_num,rfl,by omega,by omega,Hst d br a1 a2 (by omega),?_,hB.setCell (by simp) _⟩,by simp[intOf];omega⟩;rw[←kG];exact hO.put k _
    ·have hkk:k=xs.length:=by omega
     subst hkk;have hval:=Lib.hid (hI.out.last hbl);have hck2:=(hO.cell xs.length).trans (jM L xs.length (by omega));generalize L[xs.length]?.getD 0=z at *;have hfr:=hO.free xs.length;have hO2:=hO.put xs.length (.int .u64 (b:Int));rw[kG] at hO2;have hsl:=Lib.hid (hO2.sl (xs.length+1) (by rw[jy];exact hval.out.2.2) (by omega));clear hLl
     go_wp2_with (go_at_call 195;refine(zh _ _ _ _ _ hval.out.2.1 hsl.out).mono ?_;rintro e w' ⟨v,rfl,hv,rfl⟩)
     go_ret;refine⟨v,rfl,?_,hB.setCell (by simp) _⟩;rw[←hval.out.1];exact hv
theorem Bt (v u:Value) (x y:Nat) (zs bs:List Nat) (A B:Option Addr) (c d:Nat) (w:World) (hv:v = .slice A zs.length c) (hu:u = .slice B bs.length d) (h1:jc zs=x) (h2:jJ zs) (g1:jc bs=y) (g2:jJ bs)
  (hs:Sl w 1 (.slice A zs.length c) (jv zs)) (gs:Sl w 1 (.slice B bs.length d) (jv bs)) (hbl:bs.length<zs.length) (hlen:zs.length≤8000000000000):
  Calls Tryz.prog 228 #[u,v] w fun e w'=>∃v,e = .returned v∧Nt w' v (x+y)∧Below w.heap.size w w':=by
 subst hv hu h1 g1;have hmk:=yf w (zs.length+1) (by omega);rw[show ((zs.length+1:Nat):Int)=(zs.length:Int)+1 from by omega] at hmk
 have hdl:decide (bs.length<zs.length)=true:=by simpa using hbl
 go_enter Tryz.func228,Tryz.ntmps228
 go_wp2
 go_loopw [6,7,8,23] (fun cr _ _ i wr=>∃(k b:Nat) (L:List Nat),i = .int .i64 k∧cr = .int .u64 b∧k≤bs.length∧Hid (qU zs bs L k b)∧ja wr w.heap.size 148 (jv L)∧Below w.heap.size w wr) (fun _ _ _ i _=>bs.length-(intOf i).toNat)
 case atStart=>exact⟨0,0,_,rfl,rfl,by omega,Lib.hid (qU.start zs bs),ja.make _ _ _,(Below.refl _ _).alloc (Nat.le_refl _) _⟩
 case round=>
  obtain⟨k,b,L,rfl,rfl,hk,hI,hO,hB⟩:=hrel;have hb1:b≤1:=hI.out.2.2.1;have hLl:L.length=zs.length+1:=hI.out.1;by_cases hlt:k<bs.length
  ·obtain⟨b0,off,rfl,hbb,hcell⟩:=hs.at_ (k:=k) (by rw[jy];omega)
   obtain⟨b1,off1,rfl,hbb1,hcell1⟩:=gs.at_ (k:=k) (by rw[jy];omega);have hck:=(hB.cell (p:=⟨b0,off+k,none⟩) hbb).trans ((hcell k (by rw[jy];omega)).trans (jM zs k (by omega)));have hck1:=(hB.cell (p:=⟨b1,off1+k,none⟩) hbb1).trans ((hcell1 k (by rw[jy];omega)).trans (jM bs k (by omega)));have hck2:=(hO.cell k).trans (jM L k (by omega));have hfr:=hO.free k;have hwx:=j5 h2 k;have hwy:=j5 g2 k
   have Hst:=fun d br' a1 a2 a3=>Lib.hid (qU.step hI.out (d:=d) (c':=br') (by omega) a1 a2 a3)
   generalize zs[k]?.getD 0=x at *;generalize bs[k]?.getD 0=y at *;generalize L[k]?.getD 0=z at *;clear hcell hcell1 hs gs hLl;unfold WB at hwx hwy
   have hlk:k<zs.length:=by omega
   go_wp2_with (first | simp only[Ky (x:Int) (y:Int) (b:Int) (by omega) (by omega) (by omega) (by omega) (by omega) (by omega)])
   obtain⟨d,br,e1,e2,a1,a2,a3⟩:=X6 x y b hwx hwy hb1;rw[e1,e2];refine⟨⟨k+1,br,_,by go_num,rfl,by omega,Hst d br a1 a2 a3,?_,hB.setCell (by simp) _⟩,by simp[intOf];omega⟩;rw[←kG];exact hO.put k _
  ·have hkk:k=bs.length:=by omega
   subst hkk
   go_wp2
   go_loopw [6,9] (fun br i wr=>∃(k b:Nat) (L:List Nat),i = .int .i64 k∧br = .int .u64 b∧bs.length≤k∧k≤zs.length∧Hid (qU zs bs L k b)∧ja wr w.heap.size 148 (jv L)∧Below w.heap.size w wr) (fun _ i _=>zs.length-(intOf i).toNat)
   case atStart=>exact⟨bs.length,b,L,rfl,rfl,by omega,by omega,hI,hO,hB⟩
   case round=>
    clear hI hO hB hb1 hLl;obtain⟨k,b,L,rfl,rfl,hk1,hk,hI,hO,hB⟩:=hrel;have hb1:b≤1:=hI.out.2.2.1;have hLl:L.length=zs.length+1:=hI.out.1;by_cases hlt:k<zs.length
    ·obtain⟨b0,off,rfl,hbb,hcell⟩:=hs.at_ (k:=k) (by rw[jy];omega)
     have hck:=(hB.cell (p:=⟨b0,off+k,none⟩) hbb).trans ((hcell k (by rw[jy];omega)).trans (jM zs k (by omega)));have hck2:=(hO.cell k).trans (jM L k (by omega));have hfr:=hO.free k;have hwx:=j5 h2 k
     have hz:bs[k]?.getD 0=0:=by rw[List.getElem?_eq_none (by omega)];rfl
     have Hst:=fun d br' a1 a2 a3=>Lib.hid (qU.step hI.out (d:=d) (c':=br') (by omega) a1 a2 a3)
     rw[hz] at Hst;clear hz;generalize zs[k]?.getD 0=x at *;generalize L[k]?.getD 0=z at *;clear hcell hs gs hLl;unfold WB at hwx
     go_wp2_with (first | simp only[Um (x:Int) (b:Int) (by omega) (by omega) (by omega) (by omega)])
     obtain⟨d,br,e1,e2,a1,a2,a3⟩:=JV x b hwx (by unfold WB;omega);rw[e1,e2];refine⟨⟨k+1,br,_,by go_num,rfl,by omega,by omega,Hst d br a1 a2 (by omega),?_,hB.setCell (by simp) _⟩,by simp[intOf];omega⟩;rw[←kG];exact hO.put k _
    ·have hkk:k=zs.length:=by omega
     subst hkk;have hval:=Lib.hid (hI.out.last (Nat.le_of_lt hbl));have hck2:=(hO.cell zs.length).trans (jM L zs.length (by omega));generalize L[zs.length]?.getD 0=z at *;have hfr:=hO.free zs.length;have hO2:=hO.put zs.length (.int .u64 (b:Int));rw[kG] at hO2;have hsl:=Lib.hid (hO2.sl (zs.length+1) (by rw[jy];exact hval.out.2.2) (by omega));clear hLl
     go_wp2_with (go_at_call 195;refine(zh _ _ _ _ _ hval.out.2.1 hsl.out).mono ?_;rintro e w' ⟨v,rfl,hv,rfl⟩)
     go_ret;refine⟨v,rfl,?_,hB.setCell (by simp) _⟩;rw[←hval.out.1];exact hv
theorem Bl (v u:Value) (x y:Nat) (w:World) (h:Nt w v x) (h':Nt w u y) (hf:jl x) (hg:jl y):
  Calls Tryz.prog 228 #[v,u] w fun e w'=>∃v,e = .returned v∧Nt w' v (x+y)∧Below w.heap.size w w':=by
 obtain⟨zs,A,c,hv,h1,h2,h3,_,_,hs⟩:=h.open_;obtain⟨bs,B,d,hu,g1,g2,g3,_,_,gs⟩:=h'.open_;have hlen:=jl.len h3 h1 hf;have glen:=jl.len g3 g1 hg;by_cases hl:bs.length≤zs.length
 ·exact Bn v u x y zs bs A B c d w hv hu h1 h2 g1 g2 hs gs hl hlen
 ·rw[Nat.add_comm]
  exact Bt u v y x bs zs B A d c w hu hv g1 g2 h1 h2 gs hs (by omega) glen
def ya (L:List Bool):List Value:=L.map Value.bool
theorem Ya (L:List Bool) (k:Nat) (h:k<L.length):(ya L)[k]? =some (Value.bool (L[k]?.getD false)):=by simp[ya,h]
theorem Uu (L:List Bool) (k:Nat) (x:Bool):(ya L).set k (.bool x)=ya (L.set k x):=by simp[ya,List.map_set]
theorem kx (L:List Int):(je L).length=L.length:=by simp[je]
theorem kA (L:List Int) (k:Nat) (h:k<L.length):(je L)[k]? =some (Value.int .i64 (L[k]?.getD 0)):=by simp[je,h]
theorem xK (L:List Int) (k:Nat) (x:Int):(je L).set k (.int .i64 x)=je (L.set k x):=by simp[je,List.map_set]
theorem N7:(Tryz.prog.info? 4).map (fun i=>(i.zero,i.size,i.bytes))=some (some (.bool false),1,1):=by kernel_rfl
theorem y9:(Tryz.prog.info? 3).map (fun i=>(i.zero,i.size,i.bytes))=some (some (.int .i64 0),1,8):=by kernel_rfl
theorem VN (w:World) (n:Nat) (hn:n≤17592186044416):(Instr.makeSlice 154 (.int .i64 (n:Int)) (.int .i64 (n:Int))).run Tryz.prog w = .ok (.slice (some ⟨w.heap.size,0,none⟩) n n) (w.alloc (.cells (ya (List.replicate n false)).toArray 4)):=by
 have:=run_make_row' (P:=Tryz.prog) 154 4 (.bool false) 1 Tryz.underlying154 N7 rfl .i64 .i64 n (by omega) (by omega) w;rw[zY] at this;rw[this];simp[ya]
theorem Jw (w:World) (n:Nat) (hn:n≤17592186044416):(Instr.makeSlice 50 (.int .i64 (n:Int)) (.int .i64 (n:Int))).run Tryz.prog w = .ok (.slice (some ⟨w.heap.size,0,none⟩) n n) (w.alloc (.cells (je (List.replicate n 0)).toArray 3)):=by
 have:=run_make_row' (P:=Tryz.prog) 50 3 (.int .i64 0) 8 Tryz.underlying50 y9 rfl .i64 .i64 n (by omega) (by omega) w;rw[zY] at this;rw[this];simp[je]
def yw (p:List Int):Prop:=(∀x∈p,0≤x∧x<p.length)∧p.Nodup
instance (p:List Int):Decidable (yw p):=by unfold yw;infer_instance
def kh (p:List Int):Int:=if 256<p.length then 5 else if yw p then 0 else 14
def x7 (p:List Int) (L:List Bool) (k:Nat):Prop:=L.length=p.length∧(∀x∈p.take k,0≤x∧x<p.length)∧(p.take k).Nodup ∧ ∀j,j<p.length→(L[j]?.getD false=true↔(j:Int)∈p.take k)
theorem XG (p:List Int) (k:Nat) (h:k<p.length):p.take (k+1)=p.take k++[p[k]?.getD 0]:=by
 rw[List.take_add_one,List.getElem?_eq_getElem h];rfl
theorem x7.start (p:List Int):x7 p (List.replicate p.length false) 0:=by
 refine⟨by simp,by simp,by simp,fun j hj=> ?_⟩;simp[hj]
theorem x7.step {p:List Int} {L:List Bool} {k x:Nat} (h:x7 p L k) (hk:k<p.length) (hx:p[k]?.getD 0=(x:Int)) (hlt:x<p.length) (hs:L[x]?.getD false=false):x7 p (L.set x true) (k+1):=by
 obtain⟨h1,h2,h3,h4⟩:=h
 have hni:(x:Int) ∉ p.take k:=by
  intro hm;have:=(h4 x hlt).2 hm;rw[hs] at this;cases this
 rw[x7,XG p k hk,hx];refine⟨by simp[h1],?_,?_,fun j hj=> ?_⟩
 ·intro y hy
  rcases List.mem_append.1 hy with hy | hy
  ·exact h2 y hy
  ·have:y=x:=by simpa using hy
   omega
 ·rw[List.nodup_append]
  refine⟨h3,by simp,?_⟩;intro a ha b hb
  have:b=x:=by simpa using hb
  rintro rfl;exact hni (this ▸ ha)
 ·by_cases hjx:j=x
  ·subst hjx;simp[h1,hlt]
  ·rw[List.mem_append]
   have:((L.set x true)[j]?.getD false)=L[j]?.getD false:=by simp[List.getElem?_set_ne (Ne.symm hjx)]
   rw[this,h4 j hj]
   simp;omega
theorem x7.bad {p:List Int} {L:List Bool} {k:Nat} (h:x7 p L k) (hk:k<p.length) (hb:p[k]?.getD 0<0∨(p.length:Int)≤p[k]?.getD 0∨(0≤p[k]?.getD 0∧p[k]?.getD 0<p.length∧L[(p[k]?.getD 0).toNat]?.getD false=true)):¬yw p:=by
 rintro ⟨g1,g2⟩
 have hm:p[k]?.getD 0∈p:=by rw[List.getElem?_eq_getElem hk];exact List.getElem_mem hk
 have:=g1 _ hm
 rcases hb with hb | hb | ⟨b1,b2,b3⟩
 ·omega
 ·omega
 ·have hin:=(h.2.2.2 (p[k]?.getD 0).toNat (by omega)).1 b3
  rw[show ((p[k]?.getD 0).toNat:Int)=p[k]?.getD 0 from by omega] at hin
  have hsp:p=p.take k++(p[k]?.getD 0::p.drop (k+1)):=by
   rw[List.getElem?_eq_getElem hk];simp
  rw[hsp,List.nodup_append] at g2;exact g2.2.2 _ hin _ (by simp) rfl
theorem x7.good {p:List Int} {L:List Bool} (h:x7 p L p.length):yw p:=by
 obtain⟨h1,h2,h3,h4⟩:=h;rw[List.take_of_length_le (Nat.le_refl _)] at h2 h3;exact⟨h2,h3⟩
theorem Qs (v:Value) (p:List Int) (w:World) (hv:Sl w 1 v (je p)):
  Calls Tryz.prog 45 #[v] w fun e w'=>e = .returned (.int .i64 (kh p))∧Below w.heap.size w w':=by
 obtain⟨A,c,rfl,hc1,hc2⟩:=hv.form;rw[kx] at hc1 hv ⊢;by_cases hl:256<p.length
 ·have he:=Lib.hid (show kh p=5 from by unfold kh;rw[if_pos hl])
  go_enter Tryz.func45,Tryz.ntmps45
  go_wp2
  go_ret;exact⟨by rw[he.out];rfl,Below.refl _ _⟩
 ·have hd:decide ((256:Int)<(p.length:Int))=false:=decide_eq_false (by omega)
  have hmk:=VN w p.length (by omega);go_enter Tryz.func45,Tryz.ntmps45
  go_wp2
  go_loopw [5,14] (fun _ i wr=>∃(k:Nat) (L:List Bool),i = .int .i64 k∧k≤p.length∧Hid (x7 p L k)∧ja wr w.heap.size 4 (ya L)∧Below w.heap.size w wr) (fun _ i _=>p.length-(intOf i).toNat)
  case atStart=>exact⟨0,_,rfl,by omega,Lib.hid (x7.start p),ja.make _ _ _,(Below.refl _ _).alloc (Nat.le_refl _) _⟩
  case round=>
   obtain⟨k,L,rfl,hk,hI,hO,hB⟩:=hrel;have hLl:L.length=p.length:=hI.out.1;by_cases hlt:k<p.length
   ·obtain⟨b0,off,rfl,hbb,hcell⟩:=hv.at_ (k:=k) (by rw[kx];omega)
    have hck:=(hB.cell (p:=⟨b0,off+k,none⟩) hbb).trans ((hcell k (by rw[kx];omega)).trans (kA p k hlt))
    have Hbad:=fun h=>Lib.hid (hI.out.bad hlt h)
    have Hst:=fun (x:Nat) a b c=>Lib.hid (hI.out.step (x:=x) hlt a b c)
    generalize p[k]?.getD 0=x at *;clear hcell hv;by_cases h0:x<0
    ·have he:=Lib.hid (show kh p=14 from by unfold kh;rw[if_neg hl,if_neg (Hbad (.inl h0)).out])
     go_wp2
     go_ret;exact⟨by rw[he.out];rfl,hB⟩
    ·by_cases h1:(p.length:Int)≤x
     ·have he:=Lib.hid (show kh p=14 from by unfold kh;rw[if_neg hl,if_neg (Hbad (.inr (.inl h1))).out])
      go_wp2
      go_ret;exact⟨by rw[he.out];rfl,hB⟩
     ·obtain⟨y,rfl⟩:=Int.eq_ofNat_of_zero_le (Int.not_lt.1 h0)
      have hyl:y<p.length:=by omega
      have hck2:=(hO.cell y).trans (Ya L y (by omega));have hfr:=hO.free y;by_cases hs:L[y]?.getD false=true
      ·have he:=Lib.hid (show kh p=14 from by unfold kh;rw[if_neg hl,if_neg (Hbad (.inr (.inr ⟨by omega,by omega,by simpa using hs⟩))).out])
       rw[hs] at hck2;clear hs Hbad Hst hLl
       go_wp2
       go_ret;exact⟨by rw[he.out];rfl,hB⟩
      ·have hs':L[y]?.getD false=false:=by simpa using hs
       have hs2:=Hst y rfl hyl hs';rw[hs'] at hck2;clear hs hs' Hbad Hst hLl
       go_wp2
       refine⟨⟨k+1,_,by go_num,by omega,hs2,?_,hB.setCell (by simp) _⟩,by simp[intOf];omega⟩;rw[←Uu];exact hO.put y _
   ·have hkk:k=p.length:=by omega
    subst hkk;have he:=Lib.hid (show kh p=0 from by unfold kh;rw[if_neg hl,if_pos hI.out.good]);clear hLl
    go_wp2
    go_ret;exact⟨by rw[he.out];rfl,hB⟩
def kK (x:Int) (n k:Nat):List Value:=List.replicate k (Value.int .i64 x)++List.replicate (n-k) (Value.int .i64 0)
theorem Vi (x:Int) {n k:Nat} (h:k≤n):(kK x n k).length=n:=by simp[kK];omega
theorem Vj (x:Int) {n k m:Nat} (h:k+m≤n):splice (kK x n k) k (List.replicate m (Value.int .i64 x))=kK x n (k+m):=by
 unfold splice kK;rw[List.take_left' (by simp),List.length_replicate,List.drop_append,List.length_replicate,List.drop_of_length_le (by simp),List.nil_append,List.drop_replicate,←List.append_assoc,List.replicate_append_replicate]
 congr 2
 omega
theorem Ng (x:Int) {n k j:Nat} (h:j<k):(kK x n k)[j]? =some (Value.int .i64 x):=by
 unfold kK;rw[List.getElem?_append_left (by simpa using h)];simp[h]
theorem V6 (n:Nat) (w:World) (hn:n≤1000000):Calls Tryz.prog 251 #[.int .u64 1,.int .u64 (n:Int)] w fun e w'=>e = .returned (.tuple #[.int .u64 0,.int .u64 (n:Int)])∧w=w':=by
 refine(Tryz.bits_Mul 1 n (by omega) (by omega) w).mono fun e w' ⟨h1,h2⟩=>⟨?_,h2.symm⟩
 have e1:1*n/18446744073709551616=0:=by omega
 have e2:1*n%18446744073709551616=n:=by omega
 rw[h1,e1,e2];rfl
theorem N8:(Tryz.prog.info? 2).map (fun i=>(i.zero,i.size,i.bytes))=some (some (.int .i64 0),1,8):=by kernel_rfl
theorem VO (w:World) (n:Nat) (hn:n≤17592186044416):(Instr.makeSlice 192 (.int .i64 (n:Int)) (.int .i64 (n:Int))).run Tryz.prog w = .ok (.slice (some ⟨w.heap.size,0,none⟩) n n) (w.alloc (.cells (kK 0 n 0).toArray 2)):=by
 have:=run_make_row' (P:=Tryz.prog) 192 2 (.int .i64 0) 8 Tryz.underlying192 N8 rfl .i64 .i64 n (by omega) (by omega) w;rw[zY] at this;rw[this];simp[kK]
theorem CY (x:Int) (w:World) (b c n:Nat) (hO:ja w b 2 [.int .i64 x]) (hn:n≤1000000):
  Calls Tryz.prog 239 #[.slice (some ⟨b,0,none⟩) 1 c,.int .i64 n] w fun e w'=>e = .returned (.slice (some ⟨w.heap.size,0,none⟩) n n)∧ja w' w.heap.size 2 (je (List.replicate n x))∧Below w.heap.size w w':=by
 have hmk:=VO w n (by omega);have hO2:=hO.alloc (.cells (kK 0 n 0).toArray 2);have hc0:(w.alloc (.cells (kK 0 n 0).toArray 2)).cell? ⟨b,0,none⟩=some (.int .i64 x):=hO2.cell 0
 have hz:kK 0 n 0=kK x n 0:=by simp[kK]
 have HG:Hid (ja (w.alloc (.cells (kK 0 n 0).toArray 2)) w.heap.size 2 (kK x n 0)):=Lib.hid (by
  have h:=ja.make w 2 (kK 0 n 0)
  have e:∀L,kK 0 n 0=L→ja (w.alloc (.cells (kK 0 n 0).toArray 2)) w.heap.size 2 L:=fun L e=>e ▸ h
  exact e _ hz)
 clear hO hz;go_enter Tryz.func239,Tryz.ntmps239
 go_upto_region 7 with (go_at_call 251;refine(V6 n _ hn).mono ?_;rintro e w' ⟨rfl,rfl⟩)
 clear hO2 hmk
 have hcs:∀j v,(List.replicate (min 1 n) (Value.int .i64 x))[j]? =some v→(w.alloc (.cells (kK 0 n 0).toArray 2)).cell? ((⟨b,0,none⟩:Addr).add j)=some v:=by
  intro j v hv;rw[List.getElem?_replicate] at hv;split at hv
  ·rename_i hj
   have:j=0:=by omega
   subst this;rw[←hv];exact hc0
  ·cases hv
 have Hcs:=Lib.hid hcs;clear hcs hc0
 go_wp2_with ((refine wpList_copy_splice (o:=⟨some 33,_,_,_,_,_⟩) rfl (.tmp 31) (.tmp 32) 192 192 rfl 2 Tryz.underlying192 (by kernel_rfl) (some ⟨w.heap.size,0,none⟩) (some ⟨b,0,none⟩) n n 1 c rfl rfl w.heap.size 0 (kK x n 0) 2 HG.out (List.replicate (min 1 n) (.int .i64 x)) (by simp) (fun _=>⟨rfl,_,rfl,Hcs.out⟩) (by rw[Vi x (by omega)];simp;omega) (fun v hv=>by rw[List.eq_of_mem_replicate hv];rfl) w.heap.size w ((Below.refl _ _).alloc (Nat.le_refl _) _) (Nat.le_refl _) ?_;intro w1 hw1 hB1;rw[Vj x (by omega)] at hw1;clear HG Hcs))
 go_loopg [8] (n-min 1 n) (fun gh k wr=>∃m:Nat,k = .int .i64 m∧m+gh=n∧Hid (1≤m∨n=0)∧Hid (ja wr w.heap.size 2 (kK x n m))∧Below w.heap.size w wr)
 case atStart=>exact⟨min 1 n,by simp,by omega,Lib.hid (by omega),Lib.hid (by have:=hw1.out;simp at this;exact this),hB1⟩
 case round=>
  clear hw1 hB1;obtain⟨m,rfl,hm,h1,hO,hB⟩:=hrel;by_cases hlt:m<n
  ·have hml:m≤n:=by omega
   have hmn:¬n=m:=by omega
   have hm0:¬m=0:=by have:=h1.out;omega
   have hl:=Lib.hid (fun j v (hv:(List.replicate (min m (n-m)) (Value.int .i64 x))[j]? =some v)=>show wr.cell? ((⟨w.heap.size,0,none⟩:Addr).add j)=some v from by
    rw[List.getElem?_replicate] at hv;split at hv
    ·rename_i hj
     rw[←hv];have:=(hO.out.cell j).trans (Ng x (n:=n) (by omega:j<m))
     (simp only[Addr.add];split <;> simp_all)
    ·cases hv)
   have hcp:=run_copy_row (P:=Tryz.prog) wr.drew 192 192 3 2 w.heap.size m (n-m) (n-m) ⟨w.heap.size,0,none⟩ m n (kK x n m).toArray 2 (List.replicate (min m (n-m)) (.int .i64 x)) Tryz.underlying192 (by kernel_rfl) hO.out (by simp) hl.out (by simp[Vi x hml];omega) (fun v hv=>by rw[List.eq_of_mem_replicate hv];rfl);have hsp:=Vj x (n:=n) (k:=m) (m:=min m (n-m)) (by omega);unfold splice at hsp;rw[List.append_assoc,List.toList_toArray,hsp] at hcp;simp only[List.length_replicate,goInt] at hcp;have hO1:Hid (ja (wr.drew.setRow w.heap.size (kK x n (m+min m (n-m))).toArray) w.heap.size 2 (kK x n (m+min m (n-m)))):=Lib.hid (setRow_heap wr.drew w.heap.size _ _ 2 (0,0) hO.out);have hB1:Below w.heap.size w (wr.drew.setRow w.heap.size (kK x n (m+min m (n-m))).toArray):=below_setRow hB.drew (Nat.le_refl _) _;have hmm:IntKind.i64.wrap ((m:Int)+((min m (n-m):Nat):Int))=(m:Int)+((min m (n-m):Nat):Int):=IntWalk.i64_in _ (by omega)
   have hle:m+min m (n-m)≤n:=by omega
   have hgt:m<m+min m (n-m):=by have:=h1.out;omega
   generalize hmin:min m (n-m)=d at *;have Hd:=Lib.hid hmin;clear hl hsp hmin hO hB
   go_wp2_with fail
   go_region
   go_wp2
   go_roundg (gk-d)
   case rel=>exact⟨m+d,by go_num,by omega,Lib.hid (by omega),hO1,hB1⟩
   case measure=>omega
  ·have hmn:m=n:=by omega
   have hin:¬((m:Int)<(n:Int)):=by omega
   have HO:=Lib.hid (show ja wr w.heap.size 2 (je (List.replicate n x)) by have:=hO.out;rw[hmn] at this;simpa [kK,je] using this);clear hO hmn
   go_wp2
   go_ret;exact⟨rfl,HO.out,hB⟩
theorem Nh (x:Int) (w:World) (n:Nat) (hn:n≤1000000):
  Calls Tryz.prog 216 #[.int .i64 n,.int .i64 x] w fun e w'=>∃g,e = .returned (.slice (some ⟨g,0,none⟩) n n)∧w.heap.size≤g∧ja w' g 2 (je (List.replicate n x))∧Below w.heap.size w w':=by
 have hO:=ja.make w 2 [.int .i64 x];have RP:=Lib.hid (CY x _ w.heap.size 1 n hO hn);clear hO;go_enter Tryz.func216,Tryz.ntmps216
 go_wp2_with fail
 refine RP.out.mono ?_;rintro e w1 ⟨rfl,hO1,hB1⟩
 go_wp2
 go_ret;exact⟨_,rfl,by omega,by simpa using hO1,((Below.refl _ w).alloc (Nat.le_refl _) _).trans (hB1.mono (by simp))⟩
def DF (c:Int) (l:List Int) (w:World) (e:Ending) (w':World):Prop:=
 (if c=0 then ∃v,e = .returned (.tuple #[v,.int .i64 0])∧Sl w' 1 v (je l) else e = .returned (.tuple #[.slice none 0 0,.int .i64 c]))∧Below w.heap.size w w'
def jB (w:World) (v:Value) (xs:List Value):Prop:=
 ∃A c,v = .slice A xs.length c∧xs.length≤c∧xs.length≤140737488355328∧(0<xs.length → ∃b off,A=some ⟨b,off,none⟩∧b<w.heap.size ∧ ∀j,j<xs.length→w.cell? ⟨b,off+j,none⟩=xs[j]?)
theorem Sl.wide {w:World} {v:Value} {xs:List Value} (h:Sl w 1 v xs):jB w v xs:=by
 obtain⟨A,c,rfl,h1,h2⟩:=h.form;refine⟨A,c,rfl,h1,by omega,fun hn=> ?_⟩;obtain⟨b,off,hA,hb,hc⟩:=h.at_ hn;exact⟨b,off,hA,hb,hc⟩
theorem jB.form {w:World} {v:Value} {xs:List Value} (h:jB w v xs):∃A c,v = .slice A xs.length c∧xs.length≤c∧xs.length≤140737488355328:=by
 obtain⟨A,c,h1,h2,h3,_⟩:=h;exact⟨A,c,h1,h2,h3⟩
theorem jB.at_ {w:World} {A:Option Addr} {n c:Nat} {xs:List Value} (h:jB w (.slice A n c) xs) {k:Nat} (hk:k<xs.length):
  ∃b off,A=some ⟨b,off,none⟩∧b<w.heap.size ∧ ∀j,j<xs.length→w.cell? ⟨b,off+j,none⟩=xs[j]? :=by
 obtain⟨A',c',hv,h1,h2,h3⟩:=h
 injection hv with hA _ _
 subst hA;exact h3 (by omega)
theorem jB.below {w w':World} {v:Value} {xs:List Value} (h:jB w v xs) (hb:Below w.heap.size w w'):jB w' v xs:=by
 obtain⟨A,c,rfl,h1,h2,h3⟩:=h;refine⟨A,c,rfl,h1,h2,fun hn=> ?_⟩;obtain⟨b,off,hA,hlt,hc⟩:=h3 hn;exact⟨b,off,hA,Nat.lt_of_lt_of_le hlt hb.size,fun j hj=>(hb.cell (p:=⟨b,off+j,none⟩) hlt).trans (hc j hj)⟩
theorem TJ {p q:List Int} {k:Nat} (hk:k<p.length) (hl:p.length=q.length) (h:(decide (p.drop k=q.drop k))=decide (p=q)) (he:p[k]?.getD 0=q[k]?.getD 0):decide (p.drop (k+1)=q.drop (k+1))=decide (p=q):=by
 have hq:k<q.length:=by omega
 rw[List.getElem?_eq_getElem hk,List.getElem?_eq_getElem hq] at he;simp only[Option.getD_some] at he;have e1:p.drop k=p[k]::p.drop (k+1):=List.drop_eq_getElem_cons hk;have e2:q.drop k=q[k]::q.drop (k+1):=List.drop_eq_getElem_cons hq;rw[←h,e1,e2,he];exact decide_eq_decide.mpr ⟨fun h=>by rw[h],fun h=>(List.cons.inj h).2⟩
theorem TG {p q:List Int} {k:Nat} (he:p[k]?.getD 0≠q[k]?.getD 0):decide (p=q)=false:=by
 simp only[decide_eq_false_iff_not];intro h;subst h;exact he rfl
theorem Gb (v u:Value) (p q:List Int) (w:World) (hv:jB w v (je p)) (hu:jB w u (je q)):
  Calls Tryz.prog 93 #[v,u] w fun e w'=>e = .returned (.bool (decide (p=q)))∧Below w.heap.size w w':=by
 obtain⟨A,c,rfl,hc1,hc2⟩:=hv.form;obtain⟨B,d,rfl,gc1,gc2⟩:=hu.form;simp only[kx] at hc1 hc2 hv gc1 gc2 hu ⊢
 obtain⟨r,hr⟩:∃r,decide (p=q)=r:=⟨_,rfl⟩
 have HR:=Lib.hid hr;rw[hr];by_cases hl:p.length=q.length
 ·have hb:((p.length:Int) != (q.length:Int))=false:=by rw[hl];simp
  have HL:=Lib.hid hl;clear hr hl;go_enter Tryz.func93,Tryz.ntmps93
  go_wp2_with fail
  go_loopg [5] p.length (fun g i wr=>∃(k:Nat),k+g=p.length∧i = .int .i64 k∧Hid (decide (p.drop k=q.drop k)=decide (p=q))∧Below w.heap.size w wr)
  case atStart=>exact⟨0,by omega,rfl,Lib.hid rfl,Below.refl _ _⟩
  case round=>
   obtain⟨k,hk,rfl,hD,hB⟩:=hrel
   cases gk with
   | zero=>
    have hin:¬((k:Int)<(p.length:Int)):=by omega
    have HT:Hid (r=true):=Lib.hid (by
     rw[←HR.out,←hD.out,List.drop_eq_nil_of_le (by omega),List.drop_eq_nil_of_le (by have:=HL.out;omega)];rfl)
    clear hk
    go_wp2
    go_ret;exact⟨by rw[HT.out];rfl,hB⟩
   | succ g=>
    have hlt:k<p.length:=by omega
    have hlq:k<q.length:=by have:=HL.out;omega
    obtain⟨b1,off1,rfl,hbb1,hcell1⟩:=hv.at_ (k:=k) (by rw[kx];omega);obtain⟨b2,off2,rfl,hbb2,hcell2⟩:=hu.at_ (k:=k) (by rw[kx];omega);have hck1:=(hB.cell (p:=⟨b1,off1+k,none⟩) hbb1).trans ((hcell1 k (by rw[kx];omega)).trans (kA p k hlt));have hck2:=(hB.cell (p:=⟨b2,off2+k,none⟩) hbb2).trans ((hcell2 k (by rw[kx];omega)).trans (kA q k hlq));have Hstep:=Lib.hid (fun he=>TJ hlt HL.out hD.out he);have Hdiff:=Lib.hid (fun he=>TG (p:=p) (q:=q) (k:=k) he);have Hk:=Lib.hid hk;clear hcell1 hcell2 hv hu hk;generalize p[k]?.getD 0=x at *;generalize q[k]?.getD 0=y at *;by_cases he:x=y
    ·have Hs:=Lib.hid (Hstep.out he)
     have hxy:(x != y)=false:=by simp[he]
     clear he
     go_wp2
     go_quiet (fail)
     have hB':=below_drewN hB nq
     go_wp2
     go_roundg g
     case rel=>exact⟨k+1,by have:=Hk.out;omega,by go_num,Hs,hB'⟩
     case measure=>omega
    ·have Hs:=Lib.hid (Hdiff.out he)
     have hxy:(x != y)=true:=by simpa using he
     clear he;have HF:Hid (r=false):=Lib.hid (by rw[←HR.out];exact Hs.out)
     go_wp2
     go_quiet (fail)
     have hB':=below_drewN hB nq
     go_wp2
     go_ret;exact⟨by rw[HF.out];rfl,hB'⟩
 ·have hb:((p.length:Int) != (q.length:Int))=true:=by simpa using (by omega:¬(p.length:Int)=q.length)
  have hne:p≠q:=by intro h;subst h;exact hl rfl
  have HF:Hid (r=false):=Lib.hid (by rw[←hr];simpa using hne);clear hr hne hl;go_enter Tryz.func93,Tryz.ntmps93
  go_wp2
  go_ret;exact⟨by rw[HF.out];rfl,Below.refl _ _⟩
def kO (pl:List Int):Nat→List Int×List Int
 | 0=>([],(List.range pl.length).map fun (i:Nat)=>(i:Int))
 | k+1=>((kO pl k).1++[(kO pl k).2[(pl[k]?.getD 0).toNat]?.getD 0],(kO pl k).2.eraseIdx (pl[k]?.getD 0).toNat)
def XW (pl:List Int):Prop:=∀k,k<pl.length→0≤pl[k]?.getD 0∧pl[k]?.getD 0<((pl.length-k:Nat):Int)
theorem Bj {pl:List Int} (h:XW pl) (k:Nat) (hk:k≤pl.length):(kO pl k).1.length=k∧(kO pl k).2.length=pl.length-k:=by
 induction k with
 | zero=>simp[kO]
 | succ k ih=>
  have ih:=ih (by omega);have hp:=h k (by omega);unfold kO;refine⟨by simp[ih.1],?_⟩;rw[List.length_eraseIdx_of_lt (by rw[ih.2];omega),ih.2];omega
def Kh (cs:List Value):Nat→List Value→List Value
 | _,[]=>cs
 | o,v::r=>Kh (cs.set o v) (o+1) r
theorem ja.puts {g:Nat} {t:TypeId} (vs:List Value):∀ {w:World} {cs:List Value} (o:Nat),ja w g t cs→ja (w.setCells g o vs) g t (Kh cs o vs):=by
 induction vs with
 | nil=>exact fun o h=>h
 | cons v r ih=>exact fun o h=>ih (o+1) (h.put o v)
theorem Fq (vs:List Value):∀(cs:List Value) (o:Nat),o+vs.length≤cs.length→Kh cs o vs=cs.take o++(vs++cs.drop (o+vs.length)):=by
 induction vs with
 | nil=>intro cs o h;simp[Kh]
 | cons v r ih=>
  intro cs o h;simp only[List.length_cons] at h ⊢;unfold Kh;rw[ih _ _ (by rw[List.length_set];omega)];have:=list_seg_step cs o v r (by omega);rw[List.append_assoc,List.append_assoc] at this;exact this
theorem T9 (l z:List Int) (a:Nat) (ha:a<l.length):Kh (je (l++z)) 0 ((((l++z).take l.length).take a++((l++z).take l.length).drop (a+1)++List.replicate (a+1-a) 0).map (Value.int .i64))=je (l.eraseIdx a++(0::z)):=by
 rw[List.take_left,Fq _ _ _ (by simp[je];omega),List.take_zero,List.nil_append,List.eraseIdx_eq_take_drop_succ]
 have hl:((l.take a++l.drop (a+1)++List.replicate (a+1-a) 0).map (Value.int .i64)).length=l.length:=by simp;omega
 rw[hl,Nat.zero_add,show a+1-a=1 by omega]
 have hd:(je (l++z)).drop l.length=je z:=by
  unfold je;rw[List.map_append,List.drop_left' (by simp)]
 rw[hd];simp[je]
def xV (n k:Nat):List Int:=(List.range k).map (fun (i:Nat)=>(i:Int))++List.replicate (n-k) 0
theorem NY (n k:Nat):(xV n k).length=k+(n-k):=by simp[xV]
theorem N6 (n:Nat):xV n 0=List.replicate n 0:=by simp[xV]
theorem NX (n:Nat):xV n n=(List.range n).map fun (i:Nat)=>(i:Int):=by simp[xV]
theorem N5 (n k:Nat) (h:k<n):(xV n k).set k (k:Int)=xV n (k+1):=by
 unfold xV;rw[List.set_append_right _ _ (by simp),show n-k=(n-(k+1))+1 by omega,List.replicate_succ,List.length_map,List.length_range,Nat.sub_self,List.set_cons_zero,List.range_succ,List.map_append,List.append_assoc];rfl
def Bi (pl:List Int) (w:World) (e:Ending) (w':World):Prop:=
 ∃g,e = .returned (.slice (some ⟨g,0,none⟩) pl.length pl.length)∧w.heap.size≤g∧ja w' g 3 (je (kO pl pl.length).1)∧Below w.heap.size w w'
theorem Bk (v:Value) (pl:List Int) (w:World) (hv:Sl w 1 v (je pl)) (hp:XW pl) (hl:pl.length≤256):
  Calls Tryz.prog 141 #[v] w (Bi pl w):=by
 obtain⟨A,c,rfl,hc1,hc2⟩:=hv.form;simp only[kx] at hc1 hv ⊢
 obtain⟨n,hn⟩:∃n,n=pl.length:=⟨_,rfl⟩
 have HP:=Lib.hid hp
 have hmk:=fun W=>Jw W n (by omega)
 have HN:=Lib.hid hn;have HO0:=Lib.hid (ja.make w 3 (je (List.replicate n 0)));rw[←hn] at hc1 hl ⊢;clear hp hn;go_enter Tryz.func141,Tryz.ntmps141
 go_wp2_with fail
 go_loopg [13] n (fun gh i wr=>∃k:Nat,i = .int .i64 k∧k+gh=n∧Hid (ja wr w.heap.size 3 (je (xV n k)))∧Hid (Below w.heap.size w wr))
 case atStart=>exact⟨0,rfl,by omega,Lib.hid (by rw[N6];exact HO0.out),Lib.hid ((Below.refl _ _).alloc (Nat.le_refl _) _)⟩
 case round=>
  clear HO0;obtain⟨k,rfl,hk,hO,hB⟩:=hrel
  cases gk with
  | succ gh=>
   have hlt:k<n:=by omega
   have hlt':(k:Int)<(n:Int):=by omega
   have c2:=(hO.out.cell k).trans (kA _ k (by rw[NY];omega));have f2:=hO.out.free k;have HO2:Hid (ja (wr.setCell ⟨w.heap.size,k,none⟩ (.int .i64 k)) w.heap.size 3 (je (xV n (k+1)))):=Lib.hid (by rw[←N5 n k hlt,←xK];exact hO.out.put _ _);have HB2:=Lib.hid (hB.out.setCell (p:=⟨w.heap.size,k,none⟩) (Nat.le_refl _) (.int .i64 k));have Hk:=Lib.hid hk;clear hO hB hk;generalize (xV n k)[k]?.getD 0=y at *
   go_wp2
   go_roundg gh
   case rel=>exact⟨k+1,by go_num,by have:=Hk.out;omega,HO2,HB2⟩
   case measure=>omega
  | zero=>
   have hin:¬((k:Int)<(n:Int)):=by omega
   have hs:=hB.out.size;have hgl:=hO.out.lt
   have HOL:Hid (ja (wr.alloc (.cells (je (List.replicate n 0)).toArray 3)) w.heap.size 3 (je ((kO pl 0).2++List.replicate 0 0))):=Lib.hid (by
    have h:=hO.out.alloc (.cells (je (List.replicate n 0)).toArray 3)
    have e:je (xV n k)=je ((kO pl 0).2++List.replicate 0 0):=by rw[show k=n by omega,NX,HN.out];simp[kO]
    rw[e] at h
    exact h)
   have HOP:Hid (ja (wr.alloc (.cells (je (List.replicate n 0)).toArray 3)) wr.heap.size 3 (je ((kO pl 0).1++List.replicate (n-0) 0))):=Lib.hid (by simpa [kO] using ja.make wr 3 (je (List.replicate n 0)));have HB0:=Lib.hid (hB.out.alloc hs (.cells (je (List.replicate n 0)).toArray 3));have hmk2:=hmk wr;clear hO hB hk hmk
   go_wp2_with fail
   obtain⟨wb,rfl⟩:∃wb,wb=wr:=⟨_,rfl⟩
   go_loopg [3,26] n (fun gh lf i wx=>∃k:Nat,i = .int .i64 k∧k+gh=n∧lf = .slice (some ⟨w.heap.size,0,none⟩) (n-k) n∧Hid (ja wx w.heap.size 3 (je ((kO pl k).2++List.replicate k 0)))∧Hid (ja wx wb.heap.size 3 (je ((kO pl k).1++List.replicate (n-k) 0)))∧Hid (Below w.heap.size w wx))
   case atStart=>exact⟨0,rfl,by omega,by simp,HOL,HOP,HB0⟩
   case round=>
    clear HOL HOP HB0 hmk2;obtain⟨i,rfl,hi,rfl,hL,hP,hB⟩:=hrel
    cases gk with
    | zero=>
     have hin2:¬((i:Int)<(n:Int)):=by omega
     have HPf:Hid (ja wr wb.heap.size 3 (je (kO pl pl.length).1)):=Lib.hid (by
      have h:=hP.out;rw[show i=n by omega,Nat.sub_self,HN.out] at h
      simpa using h)
     clear hi
     go_wp2
     go_ret;exact⟨_,by rw[HN.out];rfl,hs,HPf.out,hB.out⟩
    | succ gh=>
     have hlt:i<n:=by omega
     have hlt':(i:Int)<(n:Int):=by omega
     obtain⟨hl1,hl2⟩:=Bj HP.out i (by rw[←HN.out];omega);rw[←HN.out] at hl2;have hpi:=HP.out i (by rw[←HN.out];exact hlt);rw[←HN.out] at hpi;obtain⟨b1,off1,rfl,hbb1,hcell1⟩:=hv.at_ (k:=i) (by rw[kx,←HN.out];exact hlt);have c1:=(hB.out.cell (p:=⟨b1,off1+i,none⟩) hbb1).trans ((hcell1 i (by rw[kx,←HN.out];exact hlt)).trans (kA pl i (by rw[←HN.out];exact hlt)));have HS1:Hid ((kO pl (i+1)).1=(kO pl i).1++[(kO pl i).2[(pl[i]?.getD 0).toNat]?.getD 0]):=Lib.hid rfl;have HS2:Hid ((kO pl (i+1)).2=(kO pl i).2.eraseIdx (pl[i]?.getD 0).toNat):=Lib.hid rfl;generalize pl[i]?.getD 0=pa at *;obtain⟨a,rfl⟩:=Int.eq_ofNat_of_zero_le hpi.1
     have ha:a<n-i:=by omega
     rw[Int.toNat_natCast] at HS1 HS2;generalize hPe:(kO pl (i+1)).1=P' at *;generalize hLe:(kO pl (i+1)).2=L' at *;have HPe:=Lib.hid hPe;have HLe:=Lib.hid hLe;clear hPe hLe;generalize (kO pl i).1=P at *;generalize (kO pl i).2=L at *;have c2:=(hL.out.cell a).trans (kA _ a (by simp;omega));rw[List.getElem?_append_left (by omega)] at c2;have c3:=(hP.out.cell i).trans (kA _ i (by simp;omega));have f3:=hP.out.free i;have hbl:=hP.out.lt;generalize (P++List.replicate (n-i) 0)[i]?.getD 0=y at *;generalize hx:L[a]?.getD 0=x at *
     have HP2:Hid (ja (wr.setCell ⟨wb.heap.size,i,none⟩ (.int .i64 x)) wb.heap.size 3 (je (P'++List.replicate (n-(i+1)) 0))):=Lib.hid (by
      have h:=hP.out.put i (.int .i64 x);rw[xK,List.set_append_right _ _ (by omega),hl1,Nat.sub_self,show n-i=(n-(i+1))+1 by omega,List.replicate_succ,List.set_cons_zero] at h;rw[HS1.out,List.append_assoc]
      exact h)
     have HL2:=Lib.hid (hL.out.other (p:=⟨wb.heap.size,i,none⟩) (by simp;omega) (.int .i64 x));have HB2:=Lib.hid (hB.out.setCell (p:=⟨wb.heap.size,i,none⟩) hs (.int .i64 x))
     have DL:=Lib.hid (Tryz.slices_Delete_int_cells w.heap.size 0 (n-i) n a (a+1) (L++List.replicate i 0) (wr.setCell ⟨wb.heap.size,i,none⟩ (.int .i64 x)) (by simp;omega) (by omega) (by omega) (by omega) (by omega) (fun j hj=>by
      rw[Nat.zero_add,HL2.out.cell j,kA _ j hj];simp) (fun j hj=>by rw[Nat.zero_add];exact HL2.out.free j))
     rw[show (((a+1:Nat)):Int)=(a:Int)+1 by omega,show n-i-(a+1-a)=n-(i+1) by omega] at DL;have Hi:=Lib.hid hi;clear hcell1 hP hL hB hx hi hpi
     go_wp2_with fail
     refine DL.out.mono ?_;clear DL;rintro e w4 ⟨rfl,q,rfl⟩
     have HL3:Hid (ja (((wr.setCell ⟨wb.heap.size,i,none⟩ (.int .i64 x)).drewN q).setCells w.heap.size 0 ((((L++List.replicate i 0).take (n-i)).take a++((L++List.replicate i 0).take (n-i)).drop (a+1)++List.replicate (a+1-a) 0).map (Value.int .i64))) w.heap.size 3 (je (L'++List.replicate (i+1) 0))):=Lib.hid (by
      have h:=(HL2.out.drewN q).puts ((((L++List.replicate i 0).take (n-i)).take a++((L++List.replicate i 0).take (n-i)).drop (a+1)++List.replicate (a+1-a) 0).map (Value.int .i64)) 0;have e:=T9 L (List.replicate i 0) a (by omega);rw[hl2] at e;rw[e] at h;rw[HS2.out,List.replicate_succ]
      exact h)
     have HP3:Hid (ja (((wr.setCell ⟨wb.heap.size,i,none⟩ (.int .i64 x)).drewN q).setCells w.heap.size 0 ((((L++List.replicate i 0).take (n-i)).take a++((L++List.replicate i 0).take (n-i)).drop (a+1)++List.replicate (a+1-a) 0).map (Value.int .i64))) wb.heap.size 3 (je (P'++List.replicate (n-(i+1)) 0))):=Lib.hid (by
      have h:=HP2.out.drewN q
      exact(World.heap_setCells_other _ _ _ _ h.lt (by omega)).trans h)
     have HB3:=Lib.hid (below_setCells (Nat.le_refl w.heap.size) ((((L++List.replicate i 0).take (n-i)).take a++((L++List.replicate i 0).take (n-i)).drop (a+1)++List.replicate (a+1-a) 0).map (Value.int .i64)) 0 _ (below_drewN HB2.out q));clear HL2 HP2 HB2;generalize (((wr.setCell ⟨wb.heap.size,i,none⟩ (.int .i64 x)).drewN q).setCells w.heap.size 0 ((((L++List.replicate i 0).take (n-i)).take a++((L++List.replicate i 0).take (n-i)).drop (a+1)++List.replicate (a+1-a) 0).map (Value.int .i64)))=w5 at *
     go_wp2
     go_roundg gh
     case rel=>exact⟨i+1,by go_num,by have:=Hi.out;omega,rfl,by rw[HLe.out];exact HL3,by rw[HPe.out];exact HP3,HB3⟩
     case measure=>omega
