/- Plain mathematics of numbers as lists of digits to the base 10^9. -/
import Derived.Test.YtneafcdfnhnpnaaGreatDoorZD22
set_option maxRecDepth 100000
set_option maxHeartbeats 4000000
namespace Go.Proofs.YtneafcdfnhnpnaaGreatDoor
open Go.RowKit Go.Lib
theorem KA {ws:List Nat} (h:kn ws) {n:Nat} (hv:jb ws<B9^n):ws.length≤n:=by
 rcases Nat.lt_or_ge n ws.length with hl | hl
 ·have hne:ws≠[]:=by intro e;subst e;simp at hl
  have:=JW h hne;have h2:B9^n≤B9^(ws.length-1):=Nat.pow_le_pow_right (by decide) (by omega);omega
 ·exact hl
theorem QJ {a b:List Nat} (ha:jF a) (hb:kn b) (h:a.length<b.length):jb a<jb b:=by
 have h1:=qB ha;have h2:=JW hb (by intro e;subst e;simp at h);have h3:B9^a.length≤B9^(b.length-1):=Nat.pow_le_pow_right (by decide) (by omega);omega
theorem QL (ws:List Nat) (k:Nat) (hk:k<ws.length):jb ws=jb (ws.take k)+B9^k*(ws[k]?.getD 0+B9*jb (ws.drop (k+1))):=by
 have h:ws=ws.take k++(ws[k]?.getD 0::ws.drop (k+1)):=by
  rw[List.getElem?_eq_getElem hk]
  simp
 conv=>lhs;rw[h]
 rw[JZ];simp only[jb,List.length_take];rw[Nat.min_eq_left (by omega)]
theorem UA {a b:List Nat} (ha:jF a) (hl:a.length=b.length) (k:Nat) (hk:k<a.length) (hd:a.drop (k+1)=b.drop (k+1)) (hlt:a[k]?.getD 0<b[k]?.getD 0):jb a<jb b:=by
 rw[QL a k hk,QL b k (by omega),hd];have h1:=qB (zQ ha k);rw[List.length_take,Nat.min_eq_left (by omega)] at h1;generalize jb (b.drop (k+1))=D at *;generalize a[k]?.getD 0=x at *;generalize b[k]?.getD 0=y at *
 have h2:B9^k*(x+B9*D)+B9^k*1≤B9^k*(y+B9*D):=by rw[←Nat.mul_add];exact Nat.mul_le_mul_left _ (by omega)
 omega
theorem QN (ws:List Nat) (k:Nat):jb (ws.take (k+1))=jb (ws.take k)+B9^k*ws[k]?.getD 0:=by
 rcases Nat.lt_or_ge k ws.length with h | h
 ·rw[yN ws k h,zR,List.length_take,Nat.min_eq_left (by omega)]
 ·rw[List.take_of_length_le (by omega),List.take_of_length_le h,List.getElem?_eq_none h];simp
theorem zP {L:List Nat} (h:jF L) (k x:Nat) (hx:x<B9):jF (L.set k x):=by
 intro y hy;rcases List.mem_or_eq_of_mem_set hy with h1 | h1
 ·exact h y h1
 ·omega
theorem QI (n:Nat):jF (List.replicate n 0):=by
 intro x hx;rw[List.eq_of_mem_replicate hx];decide
theorem Ru (ws:List Nat) (k:Nat):jb (ws.take k)≤jb ws:=by
 conv=>rhs;rw[←List.take_append_drop k ws]
 rw[JZ];omega
def zk (xs L:List Nat) (b k r:Nat):Prop:=L.length=xs.length∧jF L∧r<b∧jb (xs.drop k)=jb (L.drop k)*b+r
theorem zk.start (xs:List Nat) (b:Nat) (hb:0<b):zk xs (List.replicate xs.length 0) b xs.length 0:=
 ⟨by simp,QI _,hb,by simp[jb]⟩
theorem zk.step {xs L:List Nat} {b k r:Nat} (h:zk xs L b (k+1) r) (hk:k<xs.length) (hb:0<b) (hq:(r*B9+xs[k]?.getD 0)/b<B9):
  zk xs (L.set k ((r*B9+xs[k]?.getD 0)/b)) b k ((r*B9+xs[k]?.getD 0)%b):=by
 obtain⟨h1,h2,h3,h4⟩:=h;refine⟨by simp[h1],zP h2 _ _ hq,Nat.mod_lt _ hb,?_⟩;rw[Jr xs k hk,Jr (L.set k _) k (by simp;omega),Jt _ _ _ (by omega),List.drop_set_of_lt (by omega)];simp only[jb,h4];have:=Nat.div_add_mod (r*B9+xs[k]?.getD 0) b;generalize (r*B9+xs[k]?.getD 0)/b=q at *;generalize (r*B9+xs[k]?.getD 0)%b=r' at *
 have e:B9*(jb (L.drop (k+1))*b+r)=B9*jb (L.drop (k+1))*b+r*B9:=by rw[Nat.mul_add,Nat.mul_assoc,Nat.mul_comm B9 r]
 rw[e,Nat.add_mul,Nat.mul_comm q b];omega
theorem Tt {b r x:Nat} (hr:r<b) (hx:x<B9):(r*B9+x)/b<B9:=by
 rw[Nat.div_lt_iff_lt_mul (by omega),Nat.mul_comm B9 b];have:(r+1)*B9≤b*B9:=Nat.mul_le_mul_right _ hr;rw[Nat.add_mul] at this;omega
theorem zk.last {xs L:List Nat} {b r:Nat} (h:zk xs L b 0 r):jb L=jb xs/b∧r=jb xs%b:=by
 obtain⟨h1,h2,h3,h4⟩:=h;simp only[List.drop_zero] at h4;rw[h4];refine⟨?_,?_⟩
 ·rw[Nat.mul_comm,Nat.mul_add_div (by omega),Nat.div_eq_of_lt h3];omega
 ·rw[Nat.mul_comm,Nat.mul_add_mod,Nat.mod_eq_of_lt h3]
theorem QK (L:List Nat) (j d:Nat) (h:j<L.length):jb (L.set j d)+B9^j*L[j]?.getD 0=jb L+B9^j*d:=by
 rw[QL L j h,QL (L.set j d) j (by simpa using h),JH _ _ _ _ (Nat.le_refl _),Jt L j d h,List.drop_set_of_lt (by omega)];simp only[Nat.mul_add];omega
def yn (bs L0 L:List Nat) (f off k c:Nat):Prop:=L.length=L0.length∧jF L∧L.drop (off+bs.length)=L0.drop (off+bs.length)∧c<B9 ∧
 jb L+B9^(off+k)*c=jb L0+B9^off*(jb (bs.take k)*f)
theorem yn.start {bs L0:List Nat} (f off:Nat) (h:jF L0):yn bs L0 L0 f off 0 0:=⟨rfl,h,rfl,by decide,by simp[jb]⟩
theorem yn.step {bs L0 L:List Nat} {f off k c d c':Nat} (h:yn bs L0 L f off k c) (hk:k<bs.length) (hlen:off+bs.length≤L0.length) (hd:d<B9) (hc:c'<B9)
  (he:d+B9*c'=L[off+k]?.getD 0+c+bs[k]?.getD 0*f):yn bs L0 (L.set (off+k) d) f off (k+1) c':=by
 obtain⟨h1,h2,h3,h4,h5⟩:=h;refine⟨by simp[h1],zP h2 _ _ hd,by rw[List.drop_set_of_lt (by omega)];exact h3,hc,?_⟩;have hs:=QK L (off+k) d (by omega);rw[QN bs,show off+(k+1)=(off+k)+1 from by omega,Nat.pow_succ]
 have e:B9^(off+k)*(d+B9*c')=B9^(off+k)*(L[off+k]?.getD 0+c+bs[k]?.getD 0*f):=by rw[he]
 have e2:B9^off*(B9^k*bs[k]?.getD 0*f)=B9^(off+k)*(bs[k]?.getD 0*f):=by rw[Nat.pow_add,Nat.mul_assoc,Nat.mul_assoc]
 simp only[Nat.mul_add,Nat.add_mul,e2] at e hs h5 ⊢;rw[Nat.mul_assoc (B9^(off+k)) B9 c'];omega
def yC (xs bs L:List Nat) (k:Nat):Prop:=L.length=xs.length+bs.length∧jF L∧jb L=jb (xs.take k)*jb bs∧L.drop (k+bs.length)=List.replicate (xs.length-k) 0
theorem yC.start (xs bs:List Nat):yC xs bs (List.replicate (xs.length+bs.length) 0) 0:=by
 refine⟨by simp,QI _,?_,by simp⟩;simp only[List.take_zero,jb,Nat.zero_mul]
 induction (xs.length+bs.length) with
 | zero=>rfl
 | succ n ih=>simp[List.replicate_succ,jb,ih]
theorem yC.step {xs bs L L':List Nat} {k c:Nat} (h:yC xs bs L k) (hk:k<xs.length) (ha:yn bs L L' (xs[k]?.getD 0) k bs.length c):
  yC xs bs (L'.set (k+bs.length) c) (k+1):=by
 obtain⟨h1,h2,h3,h4⟩:=h;obtain⟨a1,a2,a3,a4,a5⟩:=ha;have hs:=QK L' (k+bs.length) c (by omega)
 have hz:L'[k+bs.length]?.getD 0=0:=by
  have:L'.drop (k+bs.length)=List.replicate (xs.length-k) 0:=by rw[a3,h4]
  have e:(L'.drop (k+bs.length))[0]?.getD 0=L'[k+bs.length]?.getD 0:=by simp
  rw[←e,this];rw[List.getElem?_replicate];split <;> rfl
 rw[hz] at hs;refine⟨by simp;omega,zP a2 _ _ a4,?_,?_⟩
 ·rw[QN xs]
  rw[List.take_of_length_le (Nat.le_refl _),h3] at a5;simp only[Nat.add_mul];rw[Nat.mul_assoc,Nat.mul_comm (xs[k]?.getD 0) (jb bs)];omega
 ·rw[show k+1+bs.length=k+bs.length+1 from by omega,List.drop_set_of_lt (by omega),←List.drop_drop,a3,h4,List.drop_replicate]
  congr 1
theorem yC.last {xs bs L:List Nat} (h:yC xs bs L xs.length):jb L=jb xs*jb bs:=by
 obtain⟨h1,h2,h3,h4⟩:=h;rw[h3,List.take_of_length_le (Nat.le_refl _)]
theorem C0 (s:Bool) (A1 A2:Option Addr) (n1 c1 n2 c2:Nat) (w:World) (b c n:Nat) (hO:ja w b 122 [.bool s,.slice A1 n1 c1,.slice A2 n2 c2]) (hn:n≤1000000):
  Calls Tryz.prog 236 #[.slice (some ⟨b,0,none⟩) 1 c,.int .i64 n] w fun e w'=>e = .returned (.slice (some ⟨w.heap.size,0,none⟩) n n)∧ja w' w.heap.size 122 (jw (List.replicate n (s,.slice A1 n1 c1,.slice A2 n2 c2)))∧Below w.heap.size w w':=by
 obtain⟨E,hE⟩:∃E:El,E=(s,.slice A1 n1 c1,.slice A2 n2 c2):=⟨_,rfl⟩
 have HE:=hid hE
 have hOE:ja w b 122 (Js E):=by rw[hE];exact hO
 have HC:Hid (∀v,v∈Js E→v.oneCell'=true):=hid (by rw[hE];exact K7 _ _ _ _ _ _ _)
 have HCr:Hid (∀k v,v∈jw (List.replicate k E)→v.oneCell'=true):=hid (fun k=>by
  induction k with
  | zero=>intro v hv;cases hv
  | succ k ih=>
   intro v hv;rw[List.replicate_succ] at hv
   have:v∈Js E∨v∈jw (List.replicate k E):=by
    simp only[jw,List.mem_cons] at hv;simp only[Js,List.mem_cons,List.not_mem_nil,or_false];rcases hv with h | h | h | h
    ·exact .inl (.inl h)
    ·exact .inl (.inr (.inl h))
    ·exact .inl (.inr (.inr h))
    ·exact .inr h
   rcases this with h | h
   ·exact HC.out v h
   ·exact ih v h)
 rw[←hE];clear hE;have hmk:=YU w E n hn;have hO2:=hOE.alloc (.cells (kF E n 0).toArray 122);have HG:Hid (ja (w.alloc (.cells (kF E n 0).toArray 122)) w.heap.size 122 (kF E n 0)):=hid (ja.make w _ (kF E n 0))
 have Hcs:Hid (∀j v,(jw (List.replicate (min 1 n) E))[j]? =some v→(w.alloc (.cells (kF E n 0).toArray 122)).cell? ((⟨b,0,none⟩:Addr).add j)=some v):=hid (by
  intro j v hv
  have e:((⟨b,0,none⟩:Addr).add j)=⟨b,j,none⟩:=by
   unfold Addr.add;split
   ·subst j;rfl
   ·simp
  rw[e,hO2.cell j];rcases Nat.eq_zero_or_pos n with h0 | h0
  ·subst h0;cases hv
  ·rw[show min 1 n=1 by omega] at hv;exact hv)
 clear hO hO2 hOE;go_enter Tryz.func236,Tryz.ntmps236
 go_upto_region 7 with (go_at_call 251;refine(V6 n _ hn).mono ?_;rintro e w' ⟨rfl,rfl⟩)
 clear hmk
 go_wp2_with ((refine LJ (o:=⟨some 33,_,_,_,_,_⟩) rfl (.tmp 31) (.tmp 32) 167 167 rfl 122 3 Tryz.underlying167 (by kernel_rfl) w.heap.size 0 n n ⟨b,0,none⟩ 1 c rfl rfl (kF E n 0) 122 HG.out (min 1 n) rfl (jw (List.replicate (min 1 n) E)) (by rw[qC];simp) Hcs.out (by rw[Vg E (by omega),qC];simp;omega) (HCr.out _) w.heap.size w ((Below.refl _ _).alloc (Nat.le_refl _) _) (Nat.le_refl _) ?_;intro w1 hw1 hB1;rw[show (0:Nat)=0*3 from rfl,Vh E (by omega)] at hw1;clear HG Hcs))
 go_loopg [8] (n-min 1 n) (fun gh k wr=>∃m:Nat,k = .int .i64 m∧m+gh=n∧Hid (1≤m∨n=0)∧Hid (ja wr w.heap.size 122 (kF E n m))∧Below w.heap.size w wr)
 case atStart=>exact⟨min 1 n,by simp,by omega,hid (by omega),hid (by have:=hw1.out;simp at this;exact this),hB1⟩
 case round=>
  clear hw1 hB1;obtain⟨m,rfl,hm,h1,hO,hB⟩:=hrel;by_cases hlt:m<n
  ·have hml:m≤n:=by omega
   have hmn:¬n=m:=by omega
   have hm0:¬m=0:=by have:=h1.out;omega
   have hl:=hid (fun j v (hv:(jw (List.replicate (min m (n-m)) E))[j]? =some v)=>show wr.cell? ((⟨w.heap.size,0,none⟩:Addr).add j)=some v from by
    have e:((⟨w.heap.size,0,none⟩:Addr).add j)=⟨w.heap.size,j,none⟩:=by
     unfold Addr.add;split
     ·subst j;rfl
     ·simp
    rw[e,hO.out.cell j];unfold kF;have hjl:j<(jw (List.replicate (min m (n-m)) E)).length:=(List.getElem?_eq_some_iff.1 hv).1;rw[qC,List.length_replicate] at hjl
    have e2:List.replicate m E=List.replicate (min m (n-m)) E++List.replicate (m-min m (n-m)) E:=by rw[List.replicate_append_replicate];congr 1;omega
    rw[e2,List.append_assoc,y7,List.getElem?_append_left (by rw[qC,List.length_replicate];exact hjl)]
    exact hv)
   have hcp:=GH (P:=Tryz.prog) wr.drew 167 167 3 122 3 w.heap.size (m*3) (n-m) (n-m) ⟨w.heap.size,0,none⟩ m n (kF E n m).toArray 122 (min m (n-m)) (jw (List.replicate (min m (n-m)) E)) Tryz.underlying167 (by kernel_rfl) hO.out rfl (by rw[qC];simp) hl.out (by rw[qC];simp[Vg E hml];omega) (HCr.out _);have hsp:=Vh E (n:=n) (k:=m) (m:=min m (n-m)) (by omega);unfold splice at hsp;rw[List.append_assoc,List.toList_toArray,hsp] at hcp;simp only[goInt] at hcp;have hO1:Hid (ja (wr.drew.setRow w.heap.size (kF E n (m+min m (n-m))).toArray) w.heap.size 122 (kF E n (m+min m (n-m)))):=hid (setRow_heap wr.drew w.heap.size _ _ 122 (0,0) hO.out);have hB1:Below w.heap.size w (wr.drew.setRow w.heap.size (kF E n (m+min m (n-m))).toArray):=below_setRow hB.drew (Nat.le_refl _) _;have hmm:IntKind.i64.wrap ((m:Int)+((min m (n-m):Nat):Int))=(m:Int)+((min m (n-m):Nat):Int):=IntWalk.i64_in _ (by omega)
   have hle:m+min m (n-m)≤n:=by omega
   have hgt:m<m+min m (n-m):=by have:=h1.out;omega
   generalize hmin:min m (n-m)=d at *;have Hd:=hid hmin;clear hl hsp hmin hO hB
   go_wp2_with fail
   go_region
   go_wp2
   go_roundg (gk-d)
   case rel=>exact⟨m+d,by go_num,by omega,hid (by omega),hO1,hB1⟩
   case measure=>omega
  ·have hmn:m=n:=by omega
   have hin:¬((m:Int)<(n:Int)):=by omega
   have HO:=hid (show ja wr w.heap.size 122 (jw (List.replicate n E)) by have:=hO.out;rw[hmn] at this;simpa [kF] using this);clear hO hmn
   go_wp2
   go_ret;exact⟨rfl,HO.out,hB⟩
def Ni (q:Rat) (n:Nat) (w:World) (e:Ending) (w':World):Prop:=
 ∃g es,e = .returned (.slice (some ⟨g,0,none⟩) n n)∧w.heap.size≤g∧jp w' g es (List.replicate n q)∧Below w.heap.size w w'
theorem Vk (v:Value) (q:Rat) (w:World) (n:Nat) (hn:n≤1000000) (hv:Rt w v q):
  Calls Tryz.prog 206 #[.int .i64 n,v] w (Ni q n w):=by
 obtain⟨s,A1,n1,c1,A2,n2,c2,rfl⟩:=hv.shape;have h1:=ja.make w 122 [.bool s,.slice A1 n1 c1,.slice A2 n2 c2];have hO:=ja.make (w.alloc (.cells #[.bool s,.slice A1 n1 c1,.slice A2 n2 c2] 122)) 122 [.bool s,.slice A1 n1 c1,.slice A2 n2 c2];rw[World.size_alloc] at hO;obtain⟨x0,x1,x2,zz0,zz1,zz2⟩:=h1.three;clear zz0 zz1 zz2;have RP:=hid (C0 s A1 A2 n1 c1 n2 c2 _ (w.heap.size+1) 1 n hO hn);have HV:=hid hv;clear hO h1 hv;go_enter Tryz.func206,Tryz.ntmps206
 go_wp2_with fail
 refine RP.out.mono ?_;rintro e w1 ⟨rfl,hO1,hB1⟩;have hB:Below w.heap.size w w1:=(((Below.refl _ w).alloc (Nat.le_refl _) (.cells #[.bool s,.slice A1 n1 c1,.slice A2 n2 c2] 122)).alloc (by simp) (.cells #[.bool s,.slice A1 n1 c1,.slice A2 n2 c2] 122)).trans (hB1.mono (by simp;omega))
 have hR:jp w1 (w.heap.size+1+1) (List.replicate n (s,.slice A1 n1 c1,.slice A2 n2 c2)) (List.replicate n q):=by
  refine⟨by simpa using hO1,by simp,fun e he=> ?_,fun i e q' h1 h2=> ?_⟩
  ·have:=List.eq_of_mem_replicate he;subst this;exact⟨jq _ _ _,jq _ _ _⟩
  rw[List.getElem?_replicate] at h1 h2;split at h1
  ·simp at h1 h2
   obtain⟨_,rfl⟩:=h2;subst h1;exact HV.out.below hB
  ·cases h1
 have HR:=hid hR;have HB:=hid hB;clear hO1 hB1 hR hB RP HV
 go_wp2
 go_ret;exact⟨_,_,by first | rfl | simp,by omega,HR.out,HB.out⟩
theorem TV (es:List El) (n:Nat):jw (es.take n)=(jw es).take (n*3):=by
 induction es generalizing n with
 | nil=>simp[jw]
 | cons e t ih=>
  cases n with
  | zero=>simp[jw]
  | succ n=>
   rw[List.take_succ_cons,show (n+1)*3=n*3+1+1+1 by omega];simp only[jw,List.take_succ_cons,ih]
theorem U5 (A B:List El) {c:Nat} (h:A.length+B.length≤c):
  (jw (A++List.replicate (c-A.length) ka)).take (A.length*3)++jw B++(jw (A++List.replicate (c-A.length) ka)).drop (A.length*3+(jw B).length)=jw ((A++B)++List.replicate (c-(A++B).length) ka):=by
 rw[y7,List.take_left' (by rw[qC])]
 have hz:List.replicate (c-A.length) ka=List.replicate B.length ka++List.replicate (c-(A++B).length) ka:=by
  rw[List.replicate_append_replicate];congr 1;rw[List.length_append];omega
 rw[hz,y7,←List.append_assoc (jw A),List.drop_left' (by rw[List.length_append,qC,qC,qC,List.length_replicate]),y7,y7]
theorem MA (n:Nat):Builtin.zeroCells yh.cells n=(jw (List.replicate n ka)).toArray:=by
 apply Array.toList_inj.1;rw[←VL];rfl
theorem NL (n:Nat) (w:World) (h0:0<n) (hn:n≤1000001):
  Calls Tryz.prog 237 #[.slice none 0 0,.int .i64 n] w fun e w'=>∃cap,e = .returned (.slice (some ⟨w.heap.size,0,none⟩) 0 cap)∧n≤cap∧cap≤maxLen∧ja w' w.heap.size 122 (jw (List.replicate cap ka))∧Below w.heap.size w w':=by
 obtain⟨i,hi,hz,hs,hb⟩:=info_parts KQ
 have hrun:=fun ty=>run_append_nil_zeros (P:=Tryz.prog) w 167 3 ty 122 i yh .i64 .i64 Tryz.underlying167 Tryz.underlying3 hi hz n h0 (by omega) (by omega) (by rw[hb];omega)
 have hge:=grownCap_ge w n 0 122;have hle:=grownCap_le_maxLen w n 0 122 (by unfold maxLen;omega);generalize grownCap w n 0 122=cap at *;have hO:=ja.make w.drew 122 (jw (List.replicate cap ka));rw[show w.drew.heap.size=w.heap.size from rfl] at hO
 have hc:Builtin.zeroCells yh.cells n++Builtin.zeroCells yh.cells (cap-n)=(jw (List.replicate cap ka)).toArray:=by
  rw[MA,MA,List.append_toArray,←y7,List.replicate_append_replicate,show n+(cap-n)=cap by omega]
 rw[hc] at hrun;have Hrun:=hid hrun;have HO:=hid hO;clear hrun hc hO hi hz hs hb;go_enter Tryz.func237,Tryz.ntmps237
 go_wp2_with (at_builtin;(refine Lib.wpList_append_run _ rfl _ _ _ _ rfl _ _ rfl rfl _ _ (Hrun.out _) ?_))
 go_ret;exact⟨cap,rfl,hge,hle,HO.out,(Below.refl w.heap.size w).drew.alloc (Nat.le_refl _) _⟩
def Sc (Lx:List Rat) (w:World) (e:Ending) (w':World):Prop:=
 ∃g cap es,e = .returned (.slice (some ⟨g,0,none⟩) Lx.length cap)∧w.heap.size≤g∧Lx.length≤cap∧cap≤maxLen∧jp w' g es Lx∧Below w.heap.size w w'
theorem Sd (w:World) (bl b1 b2 n c0 c1 c2 o:Nat) (es1 es2:List El) (L P:List Rat) (hl:ja w bl 167 [.slice (some ⟨b1,0,none⟩) n c1,.slice (some ⟨b2,o*3,none⟩) 1 c2])
  (h1:jp w b1 es1 L) (hn:n=L.length) (hn2:n≤1000000) (_hc0:2≤c0) (h2:jp w b2 es2 P) (ho:o<P.length):
  Calls Tryz.prog 207 #[.slice (some ⟨bl,0,none⟩) 2 c0] w (Sc (L++[P[o]?.getD 0]) w):=by
 obtain⟨i,hi,hz,hs,hb⟩:=info_parts KQ;have hcl0:=hl.cell 0;have hcl1:=hl.cell 1;simp only[List.getElem?_cons_zero,List.getElem?_cons_succ] at hcl0 hcl1;have hll:=hl.lt;obtain⟨e,A1,n1,d1,A2,n2,d2,he,hee,hrt,y0,y1,y2,zz0,zz1,zz2⟩:=h2.at_ ho;clear zz0 zz1 zz2;obtain⟨e0,ea,eb⟩:=e
 have hea:ea = .slice A1 n1 d1∧eb = .slice A2 n2 d2:=by simpa using hee
 obtain⟨rfl,rfl⟩:=hea;clear hee;dsimp only at y0
 obtain⟨x,hx⟩:∃x,x=P[o]?.getD 0:=⟨_,rfl⟩
 rw[←hx] at hrt ⊢
 have hlen1:n≤es1.length:=by rw[hn];exact h1.len
 obtain⟨E1,hE1⟩:∃E1,E1=es1.take n:=⟨_,rfl⟩
 have hE1l:E1.length=n:=by rw[hE1];simp;omega
 have hnews1:∀(W:World),Below w.heap.size w W → ∀j u,(jw E1)[j]? =some u→W.cell? ((⟨b1,0,none⟩:Addr).add j)=some u:=by
  intro W hB j u hu
  have ea:((⟨b1,0,none⟩:Addr).add j)=⟨b1,j,none⟩:=by
   unfold Addr.add;split
   ·subst j;rfl
   ·simp
  rw[ea,hB.cell (p:=⟨b1,j,none⟩) h1.own.lt,h1.own.cell j];rw[hE1,TV,List.getElem?_take] at hu;split at hu
  ·exact hu
  ·cases hu
 have hone1:∀u∈jw E1,u.oneCell'=true:=by
  intro u hu
  have hno:∀a∈E1,∃B1 m1 k1 B2 m2 k2,a.2.1=Value.slice B1 m1 k1∧a.2.2=Value.slice B2 m2 k2:=by
   intro a ha;rw[hE1] at ha;obtain⟨j,hj⟩:=List.mem_iff_getElem?.1 ha;rw[List.getElem?_take] at hj;split at hj
   ·rename_i hjn
    obtain⟨q,hq⟩:∃q,L[j]? =some q:=⟨L[j]'(by omega),List.getElem?_eq_getElem _⟩
    obtain⟨s,B1,m1,k1,B2,m2,k2,hsh⟩:=(h1.num j a q hj hq).shape;simp[k8] at hsh;exact⟨B1,m1,k1,B2,m2,k2,hsh.2.1,hsh.2.2⟩
   ·cases hj
  clear hE1 hE1l hnews1
  induction E1 with
  | nil=>cases hu
  | cons a t ih=>
   obtain⟨B1,m1,k1,B2,m2,k2,h3,h4⟩:=hno a (by simp);simp only[jw,List.mem_cons] at hu;rcases hu with rfl | rfl | rfl | hu
   ·rfl
   ·rw[h3];rfl
   ·rw[h4];rfl
   ·exact ih hu (fun b hb=>hno b (by simp[hb]))
 have hnews2:∀(W:World),Below w.heap.size w W → ∀j u,(jw [((e0,.slice A1 n1 d1,.slice A2 n2 d2):El)])[j]? =some u→W.cell? ((⟨b2,o*3,none⟩:Addr).add j)=some u:=by
  intro W hB j u hu;have hb2:=h2.own.lt;rcases j with _ | _ | _ | j
  ·simp[jw] at hu;subst hu;exact(hB.cell (p:=⟨b2,o*3,none⟩) hb2).trans y0
  ·simp[jw] at hu;subst hu;exact(hB.cell (p:=⟨b2,o*3+1,none⟩) hb2).trans y1
  ·simp[jw] at hu;subst hu;exact(hB.cell (p:=⟨b2,o*3+2,none⟩) hb2).trans y2
  ·simp[jw] at hu
 have hfin:∀(W:World) (g cap:Nat),Below w.heap.size w W→ja W g 122 (jw ((E1++[(e0,.slice A1 n1 d1,.slice A2 n2 d2)])++List.replicate (cap-(n+1)) ka))→jp W g ((E1++[(e0,.slice A1 n1 d1,.slice A2 n2 d2)])++List.replicate (cap-(n+1)) ka) (L++[x]):=by
  intro W g cap hB hO;refine⟨hO,by simp[hE1l];omega,fun a ha=> ?_,fun j a q ha hq=> ?_⟩
  ·simp only[List.mem_append,List.mem_singleton] at ha
   rcases ha with (ha | ha) | ha
   ·exact h1.noi a (by rw[hE1] at ha;exact List.mem_of_mem_take ha)
   ·subst ha;exact⟨jq _ _ _,jq _ _ _⟩
   ·rw[List.eq_of_mem_replicate ha];exact⟨jq _ _ _,jq _ _ _⟩
  ·have hj:j<(L++[x]).length:=(List.getElem?_eq_some_iff.1 hq).1
   rw[List.length_append,List.length_singleton] at hj;rw[List.getElem?_append_left (by simp[hE1l];omega)] at ha;rcases Nat.lt_or_ge j n with hjn | hjn
   ·rw[List.getElem?_append_left (by omega)] at ha
    rw[List.getElem?_append_left (by omega)] at hq;rw[hE1,List.getElem?_take,if_pos hjn] at ha;exact(h1.num j a q ha hq).below hB
   ·have:j=n:=by omega
    subst this;rw[List.getElem?_append_right (by omega),hE1l] at ha;rw[List.getElem?_append_right (by omega),←hn] at hq;simp at ha hq;subst ha hq;exact hrt.below hB
 have Hfin:=hid hfin;have Hn1:=hid hnews1;have Hn2:=hid hnews2;have Ho1:=hid hone1;have HE1l:=hid hE1l;have HnL:Hid ((L++[x]).length=n+1):=hid (by simp[hn]);have Hs:=hid hs;have Hi:=hid hi;have GR:=hid (fun W=>NL (n+1) W (by omega) (by omega));clear hfin hnews1 hnews2 hone1 hE1l hE1 hrt he y0 y1 y2 h1 h2 ho hn hlen1 hx hi hz hs hb;generalize hel:((e0,.slice A1 n1 d1,.slice A2 n2 d2):El)=el at *;have Hone2:Hid (∀u∈jw [el],u.oneCell'=true):=hid (by rw[←hel];exact K7 _ _ _ _ _ _ _);clear hel;go_enter Tryz.func207,Tryz.ntmps207
 go_wp2_with fail
 go_loopg [3,11] 2 (fun gh s i wr=>(∃k sz:Nat,i = .int .i64 k∧s = .int .i64 sz∧k+gh=2∧(sz=if k=0 then 0 else if k=1 then n else n+1))∧w=wr)
 case atStart=>exact⟨⟨0,0,rfl,rfl,rfl,rfl⟩,rfl⟩
 case round=>
  obtain⟨⟨k,sz,rfl,rfl,hk,hsz⟩,rfl⟩:=hrel;rcases gk with _ | _ | _ | gk
  ·obtain rfl:k=2:=by omega
   have hsz2:sz=n+1:=hsz;subst hsz2;clear hsz;have GR2:=hid (GR.out w)
   go_wp2_with (go_at_call 237;refine GR2.out.mono ?_;rintro ee w1 ⟨cap,rfl,hc1,hc2,hO,hB⟩)
   have HO0:Hid (ja w1 w.heap.size 122 (jw ([]++List.replicate (cap-([]:List El).length) ka))):=hid hO;have HB:=hid hB;clear hO hB GR GR2;unfold maxLen at hc2
   go_loopg [6,27] 2 (fun gh v i wr=>(∃(k:Nat) (E:List El),i = .int .i64 k∧v = .slice (some ⟨w.heap.size,0,none⟩) E.length cap∧k+gh=2∧Hid (E=if k=0 then [] else if k=1 then E1 else E1++[el])∧Hid (ja wr w.heap.size 122 (jw (E++List.replicate (cap-E.length) ka))))∧Hid (Below w.heap.size w wr))
   case atStart=>exact⟨⟨0,[],rfl,rfl,rfl,hid rfl,HO0⟩,HB⟩
   case round=>
    clear HO0 HB;obtain⟨⟨k,E,rfl,rfl,hk2,hE,hO⟩,hB⟩:=hrel;rcases gk with _ | _ | _ | gk
    ·obtain rfl:k=2:=by omega
     have hE2:Hid (E=E1++[el]):=hid hE.out;have hEl:Hid (E.length=n+1):=hid (by rw[hE2.out,List.length_append,HE1l.out];rfl);clear hE
     go_wp2
     go_ret;have hO':=hO.out;rw[hEl.out,hE2.out] at hO';exact⟨w.heap.size,cap,_,by rw[HnL.out,←hEl.out];rfl,Nat.le_refl _,by rw[HnL.out];exact hc1,by unfold maxLen;exact hc2,Hfin.out _ _ _ hB.out hO',hB.out⟩
    ·obtain rfl:k=1:=by omega
     have hE2:Hid (E=E1):=hid hE.out;have hEl:Hid (E.length=n):=hid (by rw[hE2.out,HE1l.out]);have hcell:=(hB.out.cell (p:=⟨bl,1,none⟩) hll).trans hcl1;have hgl:=hO.out.lt;have hllr:bl<wr.heap.size:=Nat.lt_of_lt_of_le hll hB.out.size;have Hrun:=hid (fun ty=>run_append_room (P:=Tryz.prog) wr 167 ty 122 i Tryz.underlying167 Hi.out w.heap.size E.length cap _ hO.out ⟨b2,o*3,none⟩ 1 c2 (jw [el]) (by rw[qC,Hs.out];rfl) (Hn2.out _ hB.out) Hone2.out (by rw[hEl.out];exact hc1) (by rw[Hs.out];simp[qC,hEl.out];omega));rw[Hs.out] at Hrun;have hsp:=U5 E [el] (c:=cap) (by rw[hEl.out];exact hc1)
     have Hrun2:Hid (∀ty,(Builtin.append_ #[167,167] ty #[.slice (some ⟨w.heap.size,0,none⟩) E.length cap,.slice (some ⟨b2,o*3,none⟩) 1 c2]).run Tryz.prog wr = .ok (.slice (some ⟨w.heap.size,0,none⟩) (E++[el]).length cap) (wr.setRow w.heap.size (jw ((E++[el])++List.replicate (cap-(E++[el]).length) ka)).toArray)):=hid (by
      intro ty;have h:=Hrun.out ty;rw[List.toList_toArray,hsp] at h
      rw[h,List.length_append];rfl)
     have HO2:Hid (ja (wr.setRow w.heap.size (jw ((E++[el])++List.replicate (cap-(E++[el]).length) ka)).toArray) w.heap.size 122 (jw ((E++[el])++List.replicate (cap-(E++[el]).length) ka))):=hid (setRow_heap wr w.heap.size _ _ 122 (0,0) hO.out);have HB2:Hid (Below w.heap.size w (wr.setRow w.heap.size (jw ((E++[el])++List.replicate (cap-(E++[el]).length) ka)).toArray)):=hid (below_setRow hB.out (Nat.le_refl _) _);clear hsp Hrun hO hB
     obtain⟨E2,hE22⟩:∃E2,E2=E++[el]:=⟨_,rfl⟩
     rw[←hE22] at Hrun2 HO2 HB2;have HE22:Hid (E2=E1++[el]):=hid (by rw[hE22,hE2.out]);clear hE22
     go_wp2_with (at_builtin;(refine Lib.wpList_append_run _ rfl _ _ _ _ rfl _ _ rfl rfl _ _ (Hrun2.out _) ?_))
     go_roundg 0
     case rel=>exact⟨⟨2,E2,by go_num,rfl,rfl,hid (by rw[HE22.out];rfl),HO2⟩,HB2⟩
     case measure=>omega
    ·obtain rfl:k=0:=by omega
     have hE2:E=[]:=hE.out;subst hE2;have hcell:=(hB.out.cell (p:=⟨bl,0,none⟩) hll).trans hcl0;have hgl:=hO.out.lt;have hllr:bl<wr.heap.size:=Nat.lt_of_lt_of_le hll hB.out.size;have Hrun:=hid (fun ty=>run_append_room (P:=Tryz.prog) wr 167 ty 122 i Tryz.underlying167 Hi.out w.heap.size ([]:List El).length cap _ hO.out ⟨b1,0,none⟩ n c1 (jw E1) (by rw[qC,Hs.out,HE1l.out]) (Hn1.out _ hB.out) Ho1.out (by simp;omega) (by rw[Hs.out];simp[qC,HE1l.out];omega));rw[Hs.out] at Hrun;have hsp:=U5 [] E1 (c:=cap) (by rw[HE1l.out];simp;omega)
     have Hrun2:Hid (∀ty,(Builtin.append_ #[167,167] ty #[.slice (some ⟨w.heap.size,0,none⟩) 0 cap,.slice (some ⟨b1,0,none⟩) n c1]).run Tryz.prog wr = .ok (.slice (some ⟨w.heap.size,0,none⟩) E1.length cap) (wr.setRow w.heap.size (jw (E1++List.replicate (cap-E1.length) ka)).toArray)):=hid (by
      intro ty;have h:=Hrun.out ty;rw[List.toList_toArray,hsp] at h;simp only[List.length_nil,Nat.zero_add,List.nil_append] at h;rw[HE1l.out] at *
      exact h)
     have HO2:Hid (ja (wr.setRow w.heap.size (jw (E1++List.replicate (cap-E1.length) ka)).toArray) w.heap.size 122 (jw (E1++List.replicate (cap-E1.length) ka))):=hid (setRow_heap wr w.heap.size _ _ 122 (0,0) hO.out);have HB2:Hid (Below w.heap.size w (wr.setRow w.heap.size (jw (E1++List.replicate (cap-E1.length) ka)).toArray)):=hid (below_setRow hB.out (Nat.le_refl _) _);clear hsp Hrun hO hB hE
     go_wp2_with (at_builtin;(refine Lib.wpList_append_run _ rfl _ _ _ _ rfl _ _ rfl rfl _ _ (Hrun2.out _) ?_))
     go_roundg 1
     case rel=>exact⟨⟨1,E1,by go_num,rfl,rfl,hid rfl,HO2⟩,HB2⟩
     case measure=>omega
    ·omega
  ·obtain rfl:k=1:=by omega
   have hsz2:sz=n:=hsz;subst hsz2;clear hsz
   go_wp2
   go_roundg 0
   case rel=>exact⟨⟨2,sz+1,by go_num,by go_num,rfl,rfl⟩,rfl⟩
   case measure=>omega
  ·obtain rfl:k=0:=by omega
   have hsz2:sz=0:=hsz;subst hsz2;clear hsz
   go_wp2
   go_roundg 1
   case rel=>exact⟨⟨1,n,by go_num,by first | rfl | simp | go_num,rfl,rfl⟩,rfl⟩
   case measure=>omega
  ·omega
def Dg (w:World) (v:Value) (x:Nat):Prop:=∃ws,jb ws=x∧jF ws∧kn ws∧jB w v (jo ws)
theorem Dg.below {w w':World} {v:Value} {x:Nat} (h:Dg w v x) (hb:Below w.heap.size w w'):Dg w' v x:=by
 obtain⟨ws,h1,h2,h3,h4⟩:=h;exact⟨ws,h1,h2,h3,h4.below hb⟩
theorem Dg.open_ {w:World} {v:Value} {x:Nat} (h:Dg w v x):∃ws A c,v = .slice A ws.length c∧jb ws=x∧jF ws∧kn ws∧ws.length≤c∧ws.length≤140737488355328∧jB w (.slice A ws.length c) (jo ws):=by
 obtain⟨ws,h1,h2,h3,h4⟩:=h;obtain⟨A,c,rfl,h5,h6⟩:=h4.form;rw[kg] at *;exact⟨ws,A,c,rfl,h1,h2,h3,h5,h6,h4⟩
@[irreducible] def xw:Nat:=1000000
theorem Xe:xw≤1000000:=by unfold xw;exact Nat.le_refl _
def jP (x:Nat):Prop:=x<B9^xw
theorem jP.le {x y:Nat} (h:jP x) (hy:y≤x):jP y:=Nat.lt_of_le_of_lt hy h
theorem jP.len {ws:List Nat} {x:Nat} (h:jP x) (hn:kn ws) (hv:jb ws=x):ws.length≤1000000:=Nat.le_trans (KA hn (by rw[hv];exact h)) Xe
theorem Ri.dg {w:World} {v:Value} {x:Int} (h:Ri w v x):∃dv,v = .agg #[.bool (decide (x<0)),dv]∧Dg w dv x.natAbs:=by
 obtain⟨dv,ws,h1,h2,h3,h4,h5⟩:=h;exact⟨dv,h1,ws,h2,h3,h4,h5⟩
theorem AU {a b:List Nat} (ha:jF a) (hb:kn b) (h:a.length<b.length):kp (jb a) (jb b) = -1:=z8 (QJ ha hb h)
theorem Wl {x y:Nat} (h:y<x):kp x y=1:=by unfold kp;rw[if_neg (by omega),if_pos h]
theorem AR (x:Nat):kp x x=0:=by unfold kp;rw[if_neg (by omega),if_neg (by omega)]
theorem TD {p q:List Nat} {k:Nat} (hp:k<p.length) (hq:k<q.length) (h:p.drop (k+1)=q.drop (k+1)) (he:p[k]?.getD 0=q[k]?.getD 0):p.drop k=q.drop k:=by
 rw[Jr p k hp,Jr q k hq,h,he]
theorem KD (v u:Value) (x y:Nat) (w:World) (hv:Dg w v x) (hu:Dg w u y):
  Calls Tryz.prog 185 #[v,u] w fun e w'=>e = .returned (.int .i64 (kp x y))∧Below w.heap.size w w':=by
 obtain⟨p,A,c,rfl,e1,o1,n1,l1,l2,s1⟩:=hv.open_;obtain⟨q,B,d,rfl,e2,o2,n2,m1,m2,s2⟩:=hu.open_
 obtain⟨r,hr⟩:∃r,kp x y=r:=⟨_,rfl⟩
 rw[hr];subst e1 e2;by_cases hl:p.length<q.length
 ·have HR:Hid (r = -1):=hid (by rw[←hr];exact AU o1 n2 hl)
  have hb:((p.length:Int) != (q.length:Int))=true:=by simpa using (by omega:¬(p.length:Int)=q.length)
  have hlI:(p.length:Int)<(q.length:Int):=by omega
  clear hv hu s1 s2 hr n1 n2 o1 o2;go_enter Tryz.func185,Tryz.ntmps185
  go_wp2
  go_ret;exact⟨by rw[HR.out];rfl,Below.refl _ _⟩
 by_cases hl2:q.length<p.length
 ·have HR:Hid (r=1):=hid (by rw[←hr];exact Wl (QJ o2 n1 hl2))
  have hb:((p.length:Int) != (q.length:Int))=true:=by simpa using (by omega:¬(p.length:Int)=q.length)
  have hlI:¬(p.length:Int)<(q.length:Int):=by omega
  clear hv hu s1 s2 hr n1 n2 o1 o2;go_enter Tryz.func185,Tryz.ntmps185
  go_wp2
  go_ret;exact⟨by rw[HR.out];rfl,Below.refl _ _⟩
 have hle:p.length=q.length:=by omega
 have hb:((p.length:Int) != (q.length:Int))=false:=by rw[hle];simp
 have HL:=hid hle;have HR:=hid hr;have HO:=hid (And.intro o1 o2);have HS1:=hid s1;have HS2:=hid s2;clear hv hu s1 s2 hr n1 n2 o1 o2 hl hl2 hle;go_enter Tryz.func185,Tryz.ntmps185
 go_wp2_with fail
 go_loopg [5] p.length (fun g i wr=>i = .int .i64 ((g:Int)-1)∧g≤p.length∧Hid (p.drop g=q.drop g)∧Below w.heap.size w wr)
 case atStart=>exact⟨by go_num,Nat.le_refl _,hid (by rw[List.drop_length,HL.out,List.drop_length]),Below.refl _ _⟩
 case round=>
  obtain⟨rfl,hg,hD,hB⟩:=hrel
  cases gk with
  | zero=>
   have hin:¬((0:Int)≤((0:Nat):Int)-1):=by omega
   have HE:Hid (r=0):=hid (by rw[←HR.out,show p=q from hD.out,AR]);clear hD
   go_wp2
   go_ret;exact⟨by rw[HE.out];rfl,hB⟩
  | succ k=>
   have hlt:k<p.length:=by omega
   have hlq:k<q.length:=by have:=HL.out;omega
   obtain⟨b1,off1,rfl,hbb1,hcell1⟩:=HS1.out.at_ (k:=k) (by rw[kg];omega);obtain⟨b2,off2,rfl,hbb2,hcell2⟩:=HS2.out.at_ (k:=k) (by rw[kg];omega);have hck1:=(hB.cell (p:=⟨b1,off1+k,none⟩) hbb1).trans ((hcell1 k (by rw[kg];omega)).trans (qf p k hlt));have hck2:=(hB.cell (p:=⟨b2,off2+k,none⟩) hbb2).trans ((hcell2 k (by rw[kg];omega)).trans (qf q k hlq));have HST:=hid (fun he=>TD hlt hlq hD.out he);have HLT:Hid (p[k]?.getD 0<q[k]?.getD 0→r = -1):=hid (fun h=>by rw[←HR.out];exact z8 (UA HO.out.1 HL.out k hlt hD.out h));have HGT:Hid (q[k]?.getD 0<p[k]?.getD 0→r=1):=hid (fun h=>by rw[←HR.out];exact Wl (UA HO.out.2 HL.out.symm k hlq hD.out.symm h));clear hcell1 hcell2 hD;generalize p[k]?.getD 0=s at *;generalize q[k]?.getD 0=t at *;by_cases h1:s<t
   ·have h1I:(s:Int)<(t:Int):=by omega
    have HE:=hid (HLT.out h1);clear h1 HLT HGT HST
    go_wp2
    go_quiet (fail)
    have hB':=below_drewN hB nq
    go_wp2
    go_ret;exact⟨by rw[HE.out];rfl,hB'⟩
   ·by_cases h2:t<s
    ·have h1I:¬(s:Int)<(t:Int):=by omega
     have h2I:(t:Int)<(s:Int):=by omega
     have HE:=hid (HGT.out h2);clear h1 h2 HLT HGT HST
     go_wp2
     go_quiet (fail)
     have hB':=below_drewN hB nq
     go_wp2
     go_quiet (fail)
     have hB2:=below_drewN hB' nq
     go_wp2
     go_ret;exact⟨by rw[HE.out];rfl,hB2⟩
    ·have h1I:¬(s:Int)<(t:Int):=by omega
     have h2I:¬(t:Int)<(s:Int):=by omega
     have HE:=hid (HST.out (by omega));clear h1 h2 HLT HGT HST
     go_wp2
     go_quiet (fail)
     have hB':=below_drewN hB nq
     go_wp2
     go_quiet (fail)
     have hB2:=below_drewN hB' nq
     go_wp2
     go_roundg k
     case rel=>exact⟨by go_num,by omega,HE,below_drewN hB _⟩
     case measure=>omega
theorem zB (L:List Nat) (k x:Nat):(jo L).set k (.int .i64 (x:Int))=jo (L.set k x):=by simp[jo,List.map_set]
theorem Y5 (n:Nat):jo (List.replicate n 0)=je (List.replicate n 0):=by simp[jo,je]
theorem Dg.of_trim {w:World} {A:Option Addr} {c:Nat} {ws:List Nat} (hok:jF ws) (h:jB w (.slice A (jE ws).length c) (jo (jE ws))):Dg w (.slice A (jE ws).length c) (jb ws):=
 ⟨jE ws,Yb ws,Uz hok,XQ ws,h⟩
theorem XH {w:World} {g:Nat} {L:List Nat} (n:Nat) (hn:n=L.length) (hO:ja w g 3 (jo L)) (hok:jF L) (hs:n≤140737488355328):
  Calls Tryz.prog 226 #[.slice (some ⟨g,0,none⟩) n n] w fun e w'=>∃v,e = .returned v∧Dg w v (jb L)∧w=w':=by
 subst hn;have h:=XI (some ⟨g,0,none⟩) L.length L w (hO.sl _ (by rw[kg]) hs).wide
 exact h.mono fun e w' ⟨h1,h2,h3⟩=>⟨_,h1,Dg.of_trim hok h2,h3⟩
def Tm (x d:Nat) (w:World) (e:Ending) (w':World):Prop:=∃v,e = .returned (.tuple #[v,.int .i64 ((x%d:Nat):Int)])∧Dg w' v (x/d)∧Below w.heap.size w w'
theorem UV (v:Value) (x d:Nat) (w:World) (hv:Dg w v x) (hd0:0<d) (hd:d<1000000000) (hx:jP x):
  Calls Tryz.prog 225 #[v,.int .i64 d] w (Tm x d w):=by
 obtain⟨p,A,c,rfl,e1,o1,n1,l1,l2,s1⟩:=hv.open_
 have hdI:(0:Int)<(d:Int):=by omega
 have hdI2:(d:Int)<1000000000:=by omega
 have hl6:=hx.len n1 e1;have hmk:=Jw w p.length (by omega);clear hx;have HO0:Hid (ja (w.alloc (.cells (je (List.replicate p.length 0)).toArray 3)) w.heap.size 3 (jo (List.replicate p.length 0))):=hid (by rw[Y5];exact ja.make _ _ _);have HB0:Hid (Below w.heap.size w (w.alloc (.cells (je (List.replicate p.length 0)).toArray 3))):=hid ((Below.refl _ _).alloc (Nat.le_refl _) _);have HST:=hid (zk.start p d hd0);have HS:=hid s1;have HOK:=hid o1;have HE1:=hid e1;have HD0:=hid hd0;have HD:=hid hd;clear s1 o1 e1 hv n1 hd0 hd;go_enter Tryz.func225,Tryz.ntmps225
 go_wp2_with fail
 go_loopg [7,8,9] p.length (fun g r i _ wr=>∃(L:List Nat) (rr:Nat),i = .int .i64 ((g:Int)-1)∧r = .int .i64 (rr:Int)∧g≤p.length∧Hid (zk p L d g rr)∧Hid (ja wr w.heap.size 3 (jo L))∧Hid (Below w.heap.size w wr))
 case atStart=>exact⟨_,0,by go_num,rfl,Nat.le_refl _,HST,HO0,HB0⟩
 case round=>
  obtain⟨L,rr,rfl,rfl,hg,hI,hO,hB⟩:=hrel;clear HO0 HB0 HST hmk
  cases gk with
  | zero=>
   have hin:¬((0:Int)≤((0:Nat):Int)-1):=by omega
   have HV:=hid hI.out.last;have TR:=hid (XH p.length hI.out.1.symm hO.out hI.out.2.1 l2);rw[HV.out.1,HE1.out] at TR;have HR:Hid (rr=jb p%d):=hid HV.out.2;rw[HE1.out] at HR;clear hI HV
   go_wp2_with fail
   refine TR.out.mono ?_;rintro e w2 ⟨qv,rfl,hq,rfl⟩;have HQ:=hid hq;clear hq
   go_wp2
   go_ret2;exact⟨qv,by rw[HR.out];rfl,HQ.out,hB.out⟩
  | succ k=>
   have hlt:k<p.length:=by omega
   obtain⟨b1,off1,rfl,hbb1,hcell1⟩:=HS.out.at_ (k:=k) (by rw[kg];omega);have hck1:=(hB.out.cell (p:=⟨b1,off1+k,none⟩) hbb1).trans ((hcell1 k (by rw[kg];omega)).trans (qf p k hlt));have hL:L.length=p.length:=hI.out.1;have hrr:rr<d:=hI.out.2.2.1;have hx9:p[k]?.getD 0<1000000000:=kJ HOK.out k;have HN:=hid (hI.out.step hlt HD0.out (Tt hrr hx9));have hck2:=(hO.out.cell k).trans (qf L k (by omega));have hf2:=hO.out.free k;have hwl:=hO.out.lt;have hb1:b1<wr.heap.size:=Nat.lt_of_lt_of_le hbb1 hB.out.size;clear hcell1 hI;generalize p[k]?.getD 0=s at *;generalize L[k]?.getD 0=y at *
   have hrI:(rr:Int)<1000000000:=by have:=HD.out;omega
   have hsI:(s:Int)<1000000000:=by omega
   clear hrr hx9
   have Q1:((rr:Int)*1000000000+(s:Int))/(d:Int)=(((rr*B9+s)/d:Nat):Int):=by rw[Int.natCast_ediv,Int.natCast_add,Int.natCast_mul];rfl
   have Q2:((rr:Int)*1000000000+(s:Int))%(d:Int)=(((rr*B9+s)%d:Nat):Int):=by rw[Int.natCast_emod,Int.natCast_add,Int.natCast_mul];rfl
   generalize (rr*B9+s)/d=qd at *;generalize (rr*B9+s)%d=rd at *;have HO2:Hid (ja (wr.setCell ⟨w.heap.size,k,none⟩ (.int .i64 (qd:Int))) w.heap.size 3 (jo (L.set k qd))):=hid (by rw[←zB];exact hO.out.put _ _);have HB2:=hid (hB.out.setCell (p:=⟨w.heap.size,k,none⟩) (Nat.le_refl _) (.int .i64 (qd:Int)));have HQ1:=hid Q1;have HQ2:=hid Q2;clear Q1 Q2
   go_wp2
   rw[HQ1.out,HQ2.out]
   go_roundg k
   case rel=>exact⟨_,rd,by go_num,rfl,by omega,HN,HO2,HB2⟩
   case measure=>omega
def KJ (x y:Nat) (w:World) (e:Ending) (w':World):Prop:=∃q r,e = .returned (.tuple #[q,r])∧Dg w' q (x/y)∧Dg w' r (x%y)∧Below w.heap.size w w'
theorem Dg.nil {w:World} :Dg w (.slice none 0 0) 0:=⟨[],rfl,JY,rfl,none,0,rfl,by simp[jo],by simp[jo],fun h=>by simp[jo] at h⟩
theorem Dg.size_ {w:World} {v:Value} {x:Nat} (h:Dg w v x):∃A n c,v = .slice A n c∧n≤140737488355328:=by
 obtain⟨p,A,c,rfl,_,_,_,_,h2,_⟩:=h.open_;exact⟨A,_,c,rfl,h2⟩
theorem Tr (v u:Value) (x y:Nat) (w:World) (hv:Dg w v x) (hu:Dg w u y) (hlt:x<y):
  Calls Tryz.prog 175 #[v,u] w (KJ x y w):=by
 have CD:=hid (KD v u x y w hv hu);rw[z8 hlt] at CD;obtain⟨A,n,c,rfl,_⟩:=hv.size_;obtain⟨B,m,d,rfl,_⟩:=hu.size_
 have HF:Hid (∀w':World,Below w.heap.size w w'→KJ x y w (.returned (.tuple #[.slice none 0 0,.slice A n c])) w'):=hid (fun w' hB=>by
  refine⟨_,_,rfl,?_,?_,hB⟩
  ·rw[Nat.div_eq_of_lt hlt];exact Dg.nil
  ·rw[Nat.mod_eq_of_lt hlt];exact hv.below hB)
 clear hv hu hlt;go_enter Tryz.func175,Tryz.ntmps175
 go_wp2_with fail
 refine CD.out.mono ?_;rintro e w1 ⟨rfl,hB⟩
 go_wp2
 go_ret2;exact HF.out _ hB
theorem Dg.one {w:World} {v:Value} {y:Nat} (h:Dg w v y) (h0:0<y) (hy:y<B9):∃b off c,v = .slice (some ⟨b,off,none⟩) 1 c∧b<w.heap.size∧w.cell? ⟨b,off,none⟩=some (.int .i64 (y:Int)):=by
 obtain⟨p,A,c,rfl,e1,o1,n1,l1,l2,s1⟩:=h.open_;have hl:=KA n1 (n:=1) (by rw[e1,Nat.pow_one];exact hy)
 have hl2:p.length=1:=by
  rcases Nat.eq_zero_or_pos p.length with h2 | h2
  ·have:=List.length_eq_zero_iff.1 h2
   subst this;simp[jb] at e1;omega
  ·omega
 obtain⟨z,rfl⟩:=List.length_eq_one_iff.1 hl2
 have hz:z=y:=by simpa [jb] using e1
 subst hz;obtain⟨b,off,rfl,hb,hc⟩:=s1.at_ (k:=0) (by simp[jo]);exact⟨b,off,c,rfl,hb,by have:=hc 0 (by simp[jo]);simpa [jo] using this⟩
theorem Dg.lit {w:World} (r:Nat) (hr:r<B9):Calls Tryz.prog 226 #[.slice (some ⟨w.heap.size,0,none⟩) 1 1] (w.alloc (.cells #[.int .i64 (r:Int)] 3)) (fun e w'=>∃v,e = .returned v∧Dg (w.alloc (.cells #[.int .i64 (r:Int)] 3)) v r∧w.alloc (.cells #[.int .i64 (r:Int)] 3)=w'):=by
 have h:=XH (w:=w.alloc (.cells #[.int .i64 (r:Int)] 3)) (g:=w.heap.size) (L:=[r]) 1 rfl (ja.make w 3 [.int .i64 (r:Int)]) (Jm.2 hr) (by decide);simpa [jb] using h
theorem To (v u:Value) (x y:Nat) (w:World) (hv:Dg w v x) (hu:Dg w u y) (hle:y≤x) (h0:0<y) (hy:y<B9) (hx:jP x):
  Calls Tryz.prog 175 #[v,u] w (KJ x y w):=by
 have CD:=hid (KD v u x y w hv hu);have ho:=Jz hle;obtain⟨A,n,c,rfl,_⟩:=hv.size_;obtain⟨b,off,d,rfl,hb,hcell⟩:=hu.one h0 hy;have HV:=hid hv;have HX:=hid hx;have H0:=hid h0;have HY:=hid hy;clear hv hu hx hle h0 hy;generalize kp x y=o at *;go_enter Tryz.func175,Tryz.ntmps175
 go_wp2_with fail
 refine CD.out.mono ?_;rintro e w1 ⟨rfl,hB⟩;have hck:=(hB.cell (p:=⟨b,off,none⟩) hb).trans hcell
 go_wp2_with fail
 refine(UV _ x y w1 (HV.out.below hB) H0.out HY.out HX.out).mono ?_;rintro e w2 ⟨qv,rfl,hq,hB2⟩;have HQ:=hid hq;have DL:=hid (Dg.lit (w:=w2) (x%y) (Nat.lt_trans (Nat.mod_lt _ H0.out) HY.out));have HBB:=hid ((hB.trans (hB2.mono hB.size)).alloc (hB.trans (hB2.mono hB.size)).size (.cells #[.int .i64 ((x%y:Nat):Int)] 3));obtain⟨QA,qn,qc,rfl,_⟩:=hq.size_;clear hq;generalize hrr:x%y=r at *;have HRR:=hid hrr;clear hrr
 go_wp2_with fail
 refine DL.out.mono ?_;rintro e w3 ⟨rv,rfl,hr,rfl⟩;have HR:=hid hr;obtain⟨RA,rn,rc,rfl,_⟩:=hr.size_;clear hr
 go_wp2
 go_ret2;refine⟨_,_,rfl,HQ.out.below ((Below.refl _ _).alloc (Nat.le_refl _) _),?_,HBB.out⟩;rw[HRR.out];exact HR.out
def QS (x:Nat) (w:World) (e:Ending) (w':World):Prop:=∃v,e = .returned v∧Dg w' v x∧Below w.heap.size w w'
theorem yC.zero {xs bs L L':List Nat} {k f c:Nat} (h:yC xs bs L k) (ha:yn bs L L' f k bs.length c):L'[k+bs.length]?.getD 0=0:=by
 obtain⟨h1,h2,h3,h4⟩:=h;obtain⟨a1,a2,a3,a4,a5⟩:=ha
 have:L'.drop (k+bs.length)=List.replicate (xs.length-k) 0:=by rw[a3,h4]
 have e:(L'.drop (k+bs.length))[0]?.getD 0=L'[k+bs.length]?.getD 0:=by simp
 rw[←e,this,List.getElem?_replicate]
 split <;> rfl
theorem D4 (a b z c:Nat) (ha:a<B9) (hb:b<B9) (hz:z<B9) (hc:c<B9):a*b<1000000000000000000∧(z+a*b+c)/B9<B9∧(z+a*b+c)%B9+B9*((z+a*b+c)/B9)=z+c+b*a:=by
 have h1:a*b≤(B9-1)*(B9-1):=Nat.mul_le_mul (by omega) (by omega);rw[Nat.mul_comm b a];generalize a*b=p at *;unfold B9 at *;omega
theorem J9 (v u:Value) (x y:Nat) (w:World) (hv:Dg w v x) (hu:Dg w u y) (hx:jP x) (hy:jP y):
  Calls Tryz.prog 187 #[v,u] w (QS (x*y) w):=by
 obtain⟨p,A,c,rfl,e1,o1,n1,l1,l2,s1⟩:=hv.open_;obtain⟨q,B,d,rfl,e2,o2,n2,m1,m2,s2⟩:=hu.open_;have hp6:=hx.len n1 e1;have hq6:=hy.len n2 e2;have hmk:=Jw w (p.length+q.length) (by omega);rw[show ((p.length+q.length:Nat):Int)=(p.length:Int)+q.length from by omega] at hmk;have HO0:Hid (ja (w.alloc (.cells (je (List.replicate (p.length+q.length) 0)).toArray 3)) w.heap.size 3 (jo (List.replicate (p.length+q.length) 0))):=hid (by rw[Y5];exact ja.make _ _ _);have HB0:Hid (Below w.heap.size w (w.alloc (.cells (je (List.replicate (p.length+q.length) 0)).toArray 3))):=hid ((Below.refl _ _).alloc (Nat.le_refl _) _);have HS1:=hid s1;have HS2:=hid s2;have HOK1:=hid o1;have HOK2:=hid o2;have HE:Hid (jb p*jb q=x*y):=hid (by rw[e1,e2]);clear hv hu s1 s2 o1 o2 e1 e2 n1 n2 hx hy;go_enter Tryz.func187,Tryz.ntmps187
 go_wp2_with fail
 go_loopg [6,7,8,9] p.length (fun g i _ _ _ wr=>∃(k:Nat) (L:List Nat),i = .int .i64 (k:Int)∧k+g=p.length∧Hid (yC p q L k)∧Hid (ja wr w.heap.size 3 (jo L))∧Hid (Below w.heap.size w wr))
 case atStart=>exact⟨0,_,rfl,by omega,hid (yC.start p q),HO0,HB0⟩
 case round=>
  obtain⟨k,L,rfl,hk,hI,hO,hB⟩:=hrel;clear HO0 HB0 hmk
  cases gk with
  | zero=>
   have hkk:k=p.length:=by omega
   subst hkk;have hl:L.length=p.length+q.length:=hI.out.1;have TR:=hid (XH (p.length+q.length) hl.symm hO.out hI.out.2.1 (by omega));rw[hI.out.last,HE.out] at TR;clear hI hl hk
   go_wp2_with fail
   refine TR.out.mono ?_;rintro e w2 ⟨rv,rfl,hq,rfl⟩;have HQ:=hid hq;clear hq
   go_wp2
   go_ret;exact⟨rv,rfl,HQ.out,hB.out⟩
  | succ g=>
   have hlt:k<p.length:=by omega
   obtain⟨b1,off1,rfl,hbb1,hcell1⟩:=HS1.out.at_ (k:=k) (by rw[kg];omega);have hpk:=hid ((hcell1 k (by rw[kg];omega)).trans (qf p k hlt));have hak:=kJ HOK1.out k;have hLl:L.length=p.length+q.length:=hI.out.1;have HST:=hid (fun L' c (h:yn q L L' (p[k]?.getD 0) k q.length c)=>hI.out.step hlt h);have HZ:=hid (fun L' c (h:yn q L L' (p[k]?.getD 0) k q.length c)=>hI.out.zero h);have HA0:=hid (yn.start (bs:=q) (p[k]?.getD 0) k hI.out.2.1);generalize p[k]?.getD 0=a at *;clear hcell1 hI
   go_wp2_with fail
   obtain⟨wo,rfl⟩:∃wo:World,wo=wr:=⟨_,rfl⟩
   go_loopg [7,8,9] q.length (fun h cr kk _ wr=>∃(m c:Nat) (L':List Nat),cr = .int .i64 (c:Int)∧kk = .int .i64 (m:Int)∧m+h=q.length∧Hid (yn q L L' a k m c)∧Hid (ja wr w.heap.size 3 (jo L'))∧Hid (Below w.heap.size w wr))
   case atStart=>exact⟨0,0,L,rfl,rfl,by omega,HA0,hO,hB⟩
   case round=>
    clear hO hB;obtain⟨m,cy,L',rfl,rfl,hm,hA,hO,hB⟩:=hrel;have hl':L'.length=L.length:=hA.out.1;have hcy:cy<B9:=hA.out.2.2.2.1
    cases gk with
    | zero=>
     have hmm:m=q.length:=by omega
     subst hmm;have hz:=HZ.out _ _ hA.out;have HN:=hid (HST.out _ _ hA.out);have hck:=(hO.out.cell (k+q.length)).trans (qf L' (k+q.length) (by omega));rw[hz] at hck;have hfr:=hO.out.free (k+q.length);have HO2:Hid (ja (wr.setCell ⟨w.heap.size,k+q.length,none⟩ (.int .i64 (cy:Int))) w.heap.size 3 (jo (L'.set (k+q.length) cy))):=hid (by rw[←zB];exact hO.out.put _ _);have HB2:=hid (hB.out.setCell (p:=⟨w.heap.size,k+q.length,none⟩) (Nat.le_refl _) (.int .i64 (cy:Int)))
     have hcI:(cy:Int)<1000000000:=by unfold B9 at hcy;omega
     clear hA hz HZ HST
     go_wp2
     go_roundg g
     case rel=>exact⟨k+1,_,by go_num,by omega,HN,HO2,HB2⟩
     case measure=>omega
    | succ h=>
     have hmq:m<q.length:=by omega
     obtain⟨b2,off2,rfl,hbb2,hcell2⟩:=HS2.out.at_ (k:=m) (by rw[kg];omega);have hck1:=(hB.out.cell (p:=⟨b1,off1+k,none⟩) hbb1).trans hpk.out;have hck2:=(hB.out.cell (p:=⟨b2,off2+m,none⟩) hbb2).trans ((hcell2 m (by rw[kg];omega)).trans (qf q m hmq));have hck3:=(hO.out.cell (k+m)).trans (qf L' (k+m) (by omega));have hfr:=hO.out.free (k+m);have hbk:=kJ HOK2.out m;have hzk:=kJ hA.out.2.1 (k+m);have HN:=hid (fun d c' h1 h2 h3=>hA.out.step (d:=d) (c':=c') hmq (by omega) h1 h2 h3);generalize q[m]?.getD 0=b at *;generalize L'[k+m]?.getD 0=z at *;obtain⟨t1,t2,t3⟩:=D4 a b z cy hak hbk hzk hcy
     obtain⟨ab,hab⟩:∃ab,a*b=ab:=⟨_,rfl⟩
     rw[hab] at t1 t2 t3
     have hzI:(z:Int)<1000000000:=by clear t2 t3;unfold B9 at hzk;omega
     have hcI:(cy:Int)<1000000000:=by clear t2 t3;unfold B9 at hcy;omega
     have haI:(ab:Int)<1000000000000000000:=by clear t2 t3;omega
     have hzw:wrap64 ((a:Int)*(b:Int))=(ab:Int):=by rw[←Int.natCast_mul,hab];exact IntWalk.wrap64_in _ (by clear t2 t3;omega)
     have t4:(z+ab+cy)%B9<B9:=Nat.mod_lt _ (by decide);have HS:=hid (HN.out _ _ t4 t2 t3)
     have Q1:((z:Int)+(ab:Int)+(cy:Int))/1000000000=(((z+ab+cy)/B9:Nat):Int):=by rw[Int.natCast_ediv,Int.natCast_add,Int.natCast_add];rfl
     have Q2:((z:Int)+(ab:Int)+(cy:Int))%1000000000=(((z+ab+cy)%B9:Nat):Int):=by rw[Int.natCast_emod,Int.natCast_add,Int.natCast_add];rfl
     have hb1:b1<wr.heap.size:=Nat.lt_of_lt_of_le hbb1 hB.out.size;have hb2:b2<wr.heap.size:=Nat.lt_of_lt_of_le hbb2 hB.out.size;have hwl:=hO.out.lt;clear hab t1 t2 t3 t4 HN hA hcell2 hak hbk hzk hcy;generalize (z+ab+cy)/B9=qd at *;generalize (z+ab+cy)%B9=rd at *;have HQ1:=hid Q1;have HQ2:=hid Q2;clear Q1 Q2;have Hk:=hid hk;have Hm:=hid hm
     have hidx:(k:Int)+(m:Int)<(p.length:Int)+(q.length:Int):=by omega
     have hkI:(k:Int)<(p.length:Int):=by omega
     have hmI:(m:Int)<(q.length:Int):=by omega
     clear hk hm hLl hl' hlt hmq hbb1 hbb2 hpk
     go_wp2_with fail
     go_quiet (fail)
     have HO2:Hid (ja ((wr.drewN nq).setCell ⟨w.heap.size,k+m,none⟩ (.int .i64 (rd:Int))) w.heap.size 3 (jo (L'.set (k+m) rd))):=hid (by rw[←zB];exact(hO.out.drewN nq).put _ _);have HB2:=hid ((below_drewN hB.out nq).setCell (p:=⟨w.heap.size,k+m,none⟩) (Nat.le_refl _) (.int .i64 (rd:Int)))
     go_wp2
     rw[HQ1.out,HQ2.out]
     go_roundg h
     case rel=>exact⟨m+1,qd,_,by go_num,by go_num,by have:=Hm.out;omega,HS,HO2,HB2⟩
     case measure=>omega
