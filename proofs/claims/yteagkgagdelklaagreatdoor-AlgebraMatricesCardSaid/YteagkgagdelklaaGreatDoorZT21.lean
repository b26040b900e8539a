/- Plain mathematics of numbers as lists of digits to the base 10^9. -/
import Derived.Test.YteagkgagdelklaaGreatDoorZT19
set_option maxRecDepth 100000
set_option maxHeartbeats 2000000
namespace Go.Proofs.YteagkgagdelklaaGreatDoor
open Go.RowKit Go.Lib
theorem Qj {ws:List Nat} (h:kp ws) {n:Nat} (hv:jb ws<B9^n):ws.length≤n:=by
 rcases Qae n ws.length with hl | hl
 ·have hne:ws≠[]:=by intro e;subst e;simp at hl
  have:=Ky h hne;have h2:B9^n≤B9^(ws.length-1):=Qai (by decide) (by omega);omega
 ·exact hl
theorem Xp {a b:List Nat} (ha:jI a) (hb:kp b) (h:a.length<b.length):jb a<jb b:=by
 have h1:=qN ha;have h2:=Ky hb (by intro e;subst e;simp at h);have h3:B9^a.length≤B9^(b.length-1):=Qai (by decide) (by omega);omega
theorem Xr (ws:List Nat) (k:Nat) (hk:k<ws.length):jb ws=jb (ws.take k)+B9^k*(ws[k]?.getD 0+B9*jb (ws.drop (k+1))):=by
 have h:ws=ws.take k++(ws[k]?.getD 0::ws.drop (k+1)):=by
  rw[Qaa hk]
  simp
 conv=>lhs;rw[h]
 rw[KB];simp only[jb,Qak];rw[QaJ (by omega)]
theorem Vv {a b:List Nat} (ha:jI a) (hl:a.length=b.length) (k:Nat) (hk:k<a.length) (hd:a.drop (k+1)=b.drop (k+1)) (hlt:a[k]?.getD 0<b[k]?.getD 0):jb a<jb b:=by
 rw[Xr a k hk,Xr b k (by omega),hd];have h1:=qN (Jv ha k);rw[Qak,QaJ (by omega)] at h1;generalize jb (b.drop (k+1))=D at *;generalize a[k]?.getD 0=x at *;generalize b[k]?.getD 0=y at *
 have h2:B9^k*(x+B9*D)+B9^k*1≤B9^k*(y+B9*D):=by rw[←Qau];exact Qan _ (by omega)
 omega
theorem Xt (ws:List Nat) (k:Nat):jb (ws.take (k+1))=jb (ws.take k)+B9^k*ws[k]?.getD 0:=by
 rcases Qae k ws.length with h | h
 ·rw[zl ws k h,Jw,Qak,QaJ (by omega)]
 ·rw[Qad (by omega),Qad h,Qah h];simp
theorem Ju {L:List Nat} (h:jI L) (k x:Nat) (hx:x<B9):jI (L.set k x):=by
 intro y hy;rcases QaN hy with h1 | h1
 ·exact h y h1
 ·omega
theorem Xo (n:Nat):jI (List.replicate n 0):=by
 intro x hx;rw[QaU hx];decide
theorem Tw (ws:List Nat) (k:Nat):jb (ws.take k)≤jb ws:=by
 conv=>rhs;rw[←Qb2 k ws]
 rw[KB];omega
def zS (xs L:List Nat) (b k r:Nat):Prop:=L.length=xs.length∧jI L∧r<b∧jb (xs.drop k)=jb (L.drop k)*b+r
theorem zS.start (xs:List Nat) (b:Nat) (hb:0<b):zS xs (List.replicate xs.length 0) b xs.length 0:=
 ⟨by simp,Xo _,hb,by simp[jb]⟩
theorem zS.step {xs L:List Nat} {b k r:Nat} (h:zS xs L b (k+1) r) (hk:k<xs.length) (hb:0<b) (hq:(r*B9+xs[k]?.getD 0)/b<B9):
  zS xs (L.set k ((r*B9+xs[k]?.getD 0)/b)) b k ((r*B9+xs[k]?.getD 0)%b):=by
 obtain⟨h1,h2,h3,h4⟩:=h;refine⟨by simp[h1],Ju h2 _ _ hq,QaI _ hb,?_⟩;rw[J0 xs k hk,J0 (L.set k _) k (by simp;omega),J4 _ _ _ (by omega),Qa9 (by omega)];simp only[jb,h4];have:=QaP (r*B9+xs[k]?.getD 0) b;generalize (r*B9+xs[k]?.getD 0)/b=q at *;generalize (r*B9+xs[k]?.getD 0)%b=r' at *
 have e:B9*(jb (L.drop (k+1))*b+r)=B9*jb (L.drop (k+1))*b+r*B9:=by rw[Qau,Qal,Qam B9 r]
 rw[e,Qaz,Qam q b];omega
theorem NU {b r x:Nat} (hr:r<b) (hx:x<B9):(r*B9+x)/b<B9:=by
 rw[Nat.div_lt_iff_lt_mul (by omega),Qam B9 b];have:(r+1)*B9≤b*B9:=Qas _ hr;rw[Qaz] at this;omega
theorem zS.last {xs L:List Nat} {b r:Nat} (h:zS xs L b 0 r):jb L=jb xs/b∧r=jb xs%b:=by
 obtain⟨h1,h2,h3,h4⟩:=h;simp only[Qa0] at h4;rw[h4];refine⟨?_,?_⟩
 ·rw[Qam,Nat.mul_add_div (by omega),Qbt h3];omega
 ·rw[Qam,Nat.mul_add_mod,Qbm h3]
theorem Xq (L:List Nat) (j d:Nat) (h:j<L.length):jb (L.set j d)+B9^j*L[j]?.getD 0=jb L+B9^j*d:=by
 rw[Xr L j h,Xr (L.set j d) j (by simpa using h),Kj _ _ _ _ (Nat.le_refl _),J4 L j d h,Qa9 (by omega)];simp only[Qau];omega
def yS (bs L0 L:List Nat) (f off k c:Nat):Prop:=L.length=L0.length∧jI L∧L.drop (off+bs.length)=L0.drop (off+bs.length)∧c<B9 ∧
 jb L+B9^(off+k)*c=jb L0+B9^off*(jb (bs.take k)*f)
theorem yS.start {bs L0:List Nat} (f off:Nat) (h:jI L0):yS bs L0 L0 f off 0 0:=⟨rfl,h,rfl,by decide,by simp[jb]⟩
theorem yS.step {bs L0 L:List Nat} {f off k c d c':Nat} (h:yS bs L0 L f off k c) (hk:k<bs.length) (hlen:off+bs.length≤L0.length) (hd:d<B9) (hc:c'<B9)
  (he:d+B9*c'=L[off+k]?.getD 0+c+bs[k]?.getD 0*f):yS bs L0 (L.set (off+k) d) f off (k+1) c':=by
 obtain⟨h1,h2,h3,h4,h5⟩:=h;refine⟨by simp[h1],Ju h2 _ _ hd,by rw[Qa9 (by omega)];exact h3,hc,?_⟩;have hs:=Xq L (off+k) d (by omega);rw[Xt bs,show off+(k+1)=(off+k)+1 from by omega,QaD]
 have e:B9^(off+k)*(d+B9*c')=B9^(off+k)*(L[off+k]?.getD 0+c+bs[k]?.getD 0*f):=by rw[he]
 have e2:B9^off*(B9^k*bs[k]?.getD 0*f)=B9^(off+k)*(bs[k]?.getD 0*f):=by rw[Qbj,Qal,Qal]
 simp only[Qau,Qaz,e2] at e hs h5 ⊢;rw[Qal (B9^(off+k)) B9 c'];omega
def y9 (xs bs L:List Nat) (k:Nat):Prop:=L.length=xs.length+bs.length∧jI L∧jb L=jb (xs.take k)*jb bs∧L.drop (k+bs.length)=List.replicate (xs.length-k) 0
theorem y9.start (xs bs:List Nat):y9 xs bs (List.replicate (xs.length+bs.length) 0) 0:=by
 refine⟨by simp,Xo _,?_,by simp⟩;simp only[QbL,jb,Nat.zero_mul]
 induction (xs.length+bs.length) with
 | zero=>rfl
 | succ n ih=>simp[List.replicate_succ,jb,ih]
theorem y9.step {xs bs L L':List Nat} {k c:Nat} (h:y9 xs bs L k) (hk:k<xs.length) (ha:yS bs L L' (xs[k]?.getD 0) k bs.length c):
  y9 xs bs (L'.set (k+bs.length) c) (k+1):=by
 obtain⟨h1,h2,h3,h4⟩:=h;obtain⟨a1,a2,a3,a4,a5⟩:=ha;have hs:=Xq L' (k+bs.length) c (by omega)
 have hz:L'[k+bs.length]?.getD 0=0:=by
  have:L'.drop (k+bs.length)=List.replicate (xs.length-k) 0:=by rw[a3,h4]
  have e:(L'.drop (k+bs.length))[0]?.getD 0=L'[k+bs.length]?.getD 0:=by simp
  rw[←e,this];rw[Qbk];split <;> rfl
 rw[hz] at hs;refine⟨by simp;omega,Ju a2 _ _ a4,?_,?_⟩
 ·rw[Xt xs]
  rw[Qad (Nat.le_refl _),h3] at a5;simp only[Qaz];rw[Qal,Qam (xs[k]?.getD 0) (jb bs)];omega
 ·rw[show k+1+bs.length=k+bs.length+1 from by omega,Qa9 (by omega),←QbM,a3,h4,List.drop_replicate]
  congr 1
theorem y9.last {xs bs L:List Nat} (h:y9 xs bs L xs.length):jb L=jb xs*jb bs:=by
 obtain⟨h1,h2,h3,h4⟩:=h;rw[h3,Qad (Nat.le_refl _)]
theorem L4 (s:Bool) (A1 A2:Option Addr) (n1 c1 n2 c2:Nat) (w:World) (b c n:Nat) (hO:ja w b 69 [.bool s,.slice A1 n1 c1,.slice A2 n2 c2]) (hn:n≤1000000):
  Calls Tryz.prog 131 #[.slice (some ⟨b,0,none⟩) 1 c,.int .i64 n] w fun e w'=>e = .returned (.slice (some ⟨w.heap.size,0,none⟩) n n)∧ja w' w.heap.size 69 (jA (List.replicate n (s,.slice A1 n1 c1,.slice A2 n2 c2)))∧Below w.heap.size w w':=by
 obtain⟨E,hE⟩:∃E:El,E=(s,.slice A1 n1 c1,.slice A2 n2 c2):=⟨_,rfl⟩
 have HE:=hid hE
 have hOE:ja w b 69 (J1 E):=by rw[hE];exact hO
 have HC:Hid (∀v,v∈J1 E→v.oneCell'=true):=hid (by rw[hE];exact QH _ _ _ _ _ _ _)
 have HCr:Hid (∀k v,v∈jA (List.replicate k E)→v.oneCell'=true):=hid (fun k=>by
  induction k with
  | zero=>intro v hv;cases hv
  | succ k ih=>
   intro v hv;rw[Qa6] at hv
   have:v∈J1 E∨v∈jA (List.replicate k E):=by
    simp only[jA,QbC] at hv;simp only[J1,QbC,QbJ,or_false];rcases hv with h | h | h | h
    ·exact .inl (.inl h)
    ·exact .inl (.inr (.inl h))
    ·exact .inl (.inr (.inr h))
    ·exact .inr h
   rcases this with h | h
   ·exact HC.out v h
   ·exact ih v h)
 rw[←hE];clear hE;have hmk:=ZG w E n hn;have hO2:=hOE.alloc (.cells (kM E n 0).toArray 69);have HG:Hid (ja (w.alloc (.cells (kM E n 0).toArray 69)) w.heap.size 69 (kM E n 0)):=hid (ja.make w _ (kM E n 0))
 have Hcs:Hid (∀j v,(jA (List.replicate (min 1 n) E))[j]? =some v→(w.alloc (.cells (kM E n 0).toArray 69)).cell? ((⟨b,0,none⟩:Addr).add j)=some v):=hid (by
  intro j v hv
  have e:((⟨b,0,none⟩:Addr).add j)=⟨b,j,none⟩:=by
   unfold Addr.add;split
   ·subst j;rfl
   ·simp
  rw[e,hO2.cell j];rcases QaA n with h0 | h0
  ·subst h0;cases hv
  ·rw[show min 1 n=1 by omega] at hv;exact hv)
 clear hO hO2 hOE;go_enter Tryz.func131,Tryz.ntmps131
 go_upto_region 7 with (go_at_call 166;refine(Gr n _ hn).mono ?_;rintro e w' ⟨rfl,rfl⟩)
 clear hmk
 go_wp2_with ((refine P5 (o:=⟨some 33,_,_,_,_,_⟩) rfl (.tmp 31) (.tmp 32) 72 72 rfl 69 3 Tryz.underlying72 (by kernel_rfl) w.heap.size 0 n n ⟨b,0,none⟩ 1 c rfl rfl (kM E n 0) 69 HG.out (min 1 n) rfl (jA (List.replicate (min 1 n) E)) (by rw[qP];simp) Hcs.out (by rw[Wf E (by omega),qP];simp;omega) (HCr.out _) w.heap.size w ((Below.refl _ _).alloc (Nat.le_refl _) _) (Nat.le_refl _) ?_;intro w1 hw1 hB1;rw[show (0:Nat)=0*3 from rfl,Wg E (by omega)] at hw1;clear HG Hcs))
 go_loopg [8] (n-min 1 n) (fun gh k wr=>∃m:Nat,k = .int .i64 m∧m+gh=n∧Hid (1≤m∨n=0)∧Hid (ja wr w.heap.size 69 (kM E n m))∧Below w.heap.size w wr)
 case atStart=>exact⟨min 1 n,by simp,by omega,hid (by omega),hid (by have:=hw1.out;simp at this;exact this),hB1⟩
 case round=>
  clear hw1 hB1;obtain⟨m,rfl,hm,h1,hO,hB⟩:=hrel;by_cases hlt:m<n
  ·have hml:m≤n:=by omega
   have hmn:¬n=m:=by omega
   have hm0:¬m=0:=by have:=h1.out;omega
   have hl:=hid (fun j v (hv:(jA (List.replicate (min m (n-m)) E))[j]? =some v)=>show wr.cell? ((⟨w.heap.size,0,none⟩:Addr).add j)=some v from by
    have e:((⟨w.heap.size,0,none⟩:Addr).add j)=⟨w.heap.size,j,none⟩:=by
     unfold Addr.add;split
     ·subst j;rfl
     ·simp
    rw[e,hO.out.cell j];unfold kM;have hjl:j<(jA (List.replicate (min m (n-m)) E)).length:=(List.getElem?_eq_some_iff.1 hv).1;rw[qP,Qa8] at hjl
    have e2:List.replicate m E=List.replicate (min m (n-m)) E++List.replicate (m-min m (n-m)) E:=by rw[Qbu];congr 1;omega
    rw[e2,QaV,zF,QaB (by rw[qP,Qa8];exact hjl)]
    exact hv)
   have hcp:=M8 (P:=Tryz.prog) wr.drew 72 72 3 69 3 w.heap.size (m*3) (n-m) (n-m) ⟨w.heap.size,0,none⟩ m n (kM E n m).toArray 69 (min m (n-m)) (jA (List.replicate (min m (n-m)) E)) Tryz.underlying72 (by kernel_rfl) hO.out rfl (by rw[qP];simp) hl.out (by rw[qP];simp[Wf E hml];omega) (HCr.out _);have hsp:=Wg E (n:=n) (k:=m) (m:=min m (n-m)) (by omega);unfold splice at hsp;rw[QaV,List.toList_toArray,hsp] at hcp;simp only[goInt] at hcp;have hO1:Hid (ja (wr.drew.setRow w.heap.size (kM E n (m+min m (n-m))).toArray) w.heap.size 69 (kM E n (m+min m (n-m)))):=hid (setRow_heap wr.drew w.heap.size _ _ 69 (0,0) hO.out);have hB1:Below w.heap.size w (wr.drew.setRow w.heap.size (kM E n (m+min m (n-m))).toArray):=below_setRow hB.drew (Nat.le_refl _) _;have hmm:IntKind.i64.wrap ((m:Int)+((min m (n-m):Nat):Int))=(m:Int)+((min m (n-m):Nat):Int):=IntWalk.i64_in _ (by omega)
   have hle:m+min m (n-m)≤n:=by omega
   have hgt:m<m+min m (n-m):=by have:=h1.out;omega
   generalize hmin:min m (n-m)=d at *;have Hd:=hid hmin;clear hl hsp hmin hO hB
   go_wp2_with fail
   go_region
   go_wp2
   go_roundg (gk-d)
   case rel=>exact⟨m+d,by go_num,by omega,hid (by omega),hO1,hB1⟩
   case measure=>omega
  ·have hmn:m=n:=by omega
   have hin:¬((m:Int)<(n:Int)):=by omega
   have HO:=hid (show ja wr w.heap.size 69 (jA (List.replicate n E)) by have:=hO.out;rw[hmn] at this;simpa [kM] using this);clear hO hmn
   go_wp2
   go_ret;exact⟨rfl,HO.out,hB⟩
def DF (q:Rat) (n:Nat) (w:World) (e:Ending) (w':World):Prop:=
 ∃g es,e = .returned (.slice (some ⟨g,0,none⟩) n n)∧w.heap.size≤g∧jq w' g es (List.replicate n q)∧Below w.heap.size w w'
theorem Wj (v:Value) (q:Rat) (w:World) (n:Nat) (hn:n≤1000000) (hv:Rt w v q):
  Calls Tryz.prog 88 #[.int .i64 n,v] w (DF q n w):=by
 obtain⟨s,A1,n1,c1,A2,n2,c2,rfl⟩:=hv.shape;have h1:=ja.make w 69 [.bool s,.slice A1 n1 c1,.slice A2 n2 c2];have hO:=ja.make (w.alloc (.cells #[.bool s,.slice A1 n1 c1,.slice A2 n2 c2] 69)) 69 [.bool s,.slice A1 n1 c1,.slice A2 n2 c2];rw[World.size_alloc] at hO;obtain⟨x0,x1,x2,zz0,zz1,zz2⟩:=h1.three;clear zz0 zz1 zz2;have RP:=hid (L4 s A1 A2 n1 c1 n2 c2 _ (w.heap.size+1) 1 n hO hn);have HV:=hid hv;clear hO h1 hv;go_enter Tryz.func88,Tryz.ntmps88
 go_wp2_with fail
 refine RP.out.mono ?_;rintro e w1 ⟨rfl,hO1,hB1⟩;have hB:Below w.heap.size w w1:=(((Below.refl _ w).alloc (Nat.le_refl _) (.cells #[.bool s,.slice A1 n1 c1,.slice A2 n2 c2] 69)).alloc (by simp) (.cells #[.bool s,.slice A1 n1 c1,.slice A2 n2 c2] 69)).trans (hB1.mono (by simp;omega))
 have hR:jq w1 (w.heap.size+1+1) (List.replicate n (s,.slice A1 n1 c1,.slice A2 n2 c2)) (List.replicate n q):=by
  refine⟨by simpa using hO1,by simp,fun e he=> ?_,fun i e q' h1 h2=> ?_⟩
  ·have:=QaU he;subst this;exact⟨jr _ _ _,jr _ _ _⟩
  rw[Qbk] at h1 h2;split at h1
  ·simp at h1 h2
   obtain⟨_,rfl⟩:=h2;subst h1;exact HV.out.below hB
  ·cases h1
 have HR:=hid hR;have HB:=hid hB;clear hO1 hB1 hR hB RP HV
 go_wp2
 go_ret;exact⟨_,_,by first | rfl | simp,by omega,HR.out,HB.out⟩
theorem Df (es:List El) (n:Nat):jA (es.take n)=(jA es).take (n*3):=by
 induction es generalizing n with
 | nil=>simp[jA]
 | cons e t ih=>
  cases n with
  | zero=>simp[jA]
  | succ n=>
   rw[QbK,show (n+1)*3=n*3+1+1+1 by omega];simp only[jA,QbK,ih]
theorem V3 (A B:List El) {c:Nat} (h:A.length+B.length≤c):
  (jA (A++List.replicate (c-A.length) kf)).take (A.length*3)++jA B++(jA (A++List.replicate (c-A.length) kf)).drop (A.length*3+(jA B).length)=jA ((A++B)++List.replicate (c-(A++B).length) kf):=by
 rw[zF,List.take_left' (by rw[qP])]
 have hz:List.replicate (c-A.length) kf=List.replicate B.length kf++List.replicate (c-(A++B).length) kf:=by
  rw[Qbu];congr 1;rw[Qaf];omega
 rw[hz,zF,←QaV (jA A),List.drop_left' (by rw[Qaf,qP,qP,qP,Qa8]),zF,zF]
theorem Rg (n:Nat):Builtin.zeroCells yN.cells n=(jA (List.replicate n kf)).toArray:=by
 apply Array.toList_inj.1;rw[←WU];rfl
theorem Ae (n:Nat) (w:World) (h0:0<n) (hn:n≤1000001):
  Calls Tryz.prog 145 #[.slice none 0 0,.int .i64 n] w fun e w'=>∃cap,e = .returned (.slice (some ⟨w.heap.size,0,none⟩) 0 cap)∧n≤cap∧cap≤maxLen∧ja w' w.heap.size 69 (jA (List.replicate cap kf))∧Below w.heap.size w w':=by
 obtain⟨i,hi,hz,hs,hb⟩:=info_parts Qv
 have hrun:=fun ty=>run_append_nil_zeros (P:=Tryz.prog) w 72 3 ty 69 i yN .i64 .i64 Tryz.underlying72 Tryz.underlying3 hi hz n h0 (by omega) (by omega) (by rw[hb];omega)
 have hge:=grownCap_ge w n 0 69;have hle:=grownCap_le_maxLen w n 0 69 (by unfold maxLen;omega);generalize grownCap w n 0 69=cap at *;have hO:=ja.make w.drew 69 (jA (List.replicate cap kf));rw[show w.drew.heap.size=w.heap.size from rfl] at hO
 have hc:Builtin.zeroCells yN.cells n++Builtin.zeroCells yN.cells (cap-n)=(jA (List.replicate cap kf)).toArray:=by
  rw[Rg,Rg,Qcq,←zF,Qbu,show n+(cap-n)=cap by omega]
 rw[hc] at hrun;have Hrun:=hid hrun;have HO:=hid hO;clear hrun hc hO hi hz hs hb;go_enter Tryz.func145,Tryz.ntmps145
 go_wp2_with (at_builtin;(refine Lib.wpList_append_run _ rfl _ _ _ _ rfl _ _ rfl rfl _ _ (Hrun.out _) ?_))
 go_ret;exact⟨cap,rfl,hge,hle,HO.out,(Below.refl w.heap.size w).drew.alloc (Nat.le_refl _) _⟩
def T9 (Lx:List Rat) (w:World) (e:Ending) (w':World):Prop:=
 ∃g cap es,e = .returned (.slice (some ⟨g,0,none⟩) Lx.length cap)∧w.heap.size≤g∧Lx.length≤cap∧cap≤maxLen∧jq w' g es Lx∧Below w.heap.size w w'
theorem Na (w:World) (bl b1 b2 n c0 c1 c2 o:Nat) (es1 es2:List El) (L P:List Rat) (hl:ja w bl 72 [.slice (some ⟨b1,0,none⟩) n c1,.slice (some ⟨b2,o*3,none⟩) 1 c2])
  (h1:jq w b1 es1 L) (hn:n=L.length) (hn2:n≤1000000) (_hc0:2≤c0) (h2:jq w b2 es2 P) (ho:o<P.length):
  Calls Tryz.prog 107 #[.slice (some ⟨bl,0,none⟩) 2 c0] w (T9 (L++[P[o]?.getD 0]) w):=by
 obtain⟨i,hi,hz,hs,hb⟩:=info_parts Qv;have hcl0:=hl.cell 0;have hcl1:=hl.cell 1;simp only[Qbv,QbV] at hcl0 hcl1;have hll:=hl.lt;obtain⟨e,A1,n1,d1,A2,n2,d2,he,hee,hrt,y0,y1,y2,zz0,zz1,zz2⟩:=h2.at_ ho;clear zz0 zz1 zz2;obtain⟨e0,ea,eb⟩:=e
 have hea:ea = .slice A1 n1 d1∧eb = .slice A2 n2 d2:=by simpa using hee
 obtain⟨rfl,rfl⟩:=hea;clear hee;dsimp only at y0
 obtain⟨x,hx⟩:∃x,x=P[o]?.getD 0:=⟨_,rfl⟩
 rw[←hx] at hrt ⊢
 have hlen1:n≤es1.length:=by rw[hn];exact h1.len
 obtain⟨E1,hE1⟩:∃E1,E1=es1.take n:=⟨_,rfl⟩
 have hE1l:E1.length=n:=by rw[hE1];simp;omega
 have hnews1:∀(W:World),Below w.heap.size w W → ∀j u,(jA E1)[j]? =some u→W.cell? ((⟨b1,0,none⟩:Addr).add j)=some u:=by
  intro W hB j u hu
  have ea:((⟨b1,0,none⟩:Addr).add j)=⟨b1,j,none⟩:=by
   unfold Addr.add;split
   ·subst j;rfl
   ·simp
  rw[ea,hB.cell (p:=⟨b1,j,none⟩) h1.own.lt,h1.own.cell j];rw[hE1,Df,QbR] at hu;split at hu
  ·exact hu
  ·cases hu
 have hone1:∀u∈jA E1,u.oneCell'=true:=by
  intro u hu
  have hno:∀a∈E1,∃B1 m1 k1 B2 m2 k2,a.2.1=Value.slice B1 m1 k1∧a.2.2=Value.slice B2 m2 k2:=by
   intro a ha;rw[hE1] at ha;obtain⟨j,hj⟩:=List.mem_iff_getElem?.1 ha;rw[QbR] at hj;split at hj
   ·rename_i hjn
    obtain⟨q,hq⟩:∃q,L[j]? =some q:=⟨L[j]'(by omega),Qaa _⟩
    obtain⟨s,B1,m1,k1,B2,m2,k2,hsh⟩:=(h1.num j a q hj hq).shape;simp[qk] at hsh;exact⟨B1,m1,k1,B2,m2,k2,hsh.2.1,hsh.2.2⟩
   ·cases hj
  clear hE1 hE1l hnews1
  induction E1 with
  | nil=>cases hu
  | cons a t ih=>
   obtain⟨B1,m1,k1,B2,m2,k2,h3,h4⟩:=hno a (by simp);simp only[jA,QbC] at hu;rcases hu with rfl | rfl | rfl | hu
   ·rfl
   ·rw[h3];rfl
   ·rw[h4];rfl
   ·exact ih hu (fun b hb=>hno b (by simp[hb]))
 have hnews2:∀(W:World),Below w.heap.size w W → ∀j u,(jA [((e0,.slice A1 n1 d1,.slice A2 n2 d2):El)])[j]? =some u→W.cell? ((⟨b2,o*3,none⟩:Addr).add j)=some u:=by
  intro W hB j u hu;have hb2:=h2.own.lt;rcases j with _ | _ | _ | j
  ·simp[jA] at hu;subst hu;exact(hB.cell (p:=⟨b2,o*3,none⟩) hb2).trans y0
  ·simp[jA] at hu;subst hu;exact(hB.cell (p:=⟨b2,o*3+1,none⟩) hb2).trans y1
  ·simp[jA] at hu;subst hu;exact(hB.cell (p:=⟨b2,o*3+2,none⟩) hb2).trans y2
  ·simp[jA] at hu
 have hfin:∀(W:World) (g cap:Nat),Below w.heap.size w W→ja W g 69 (jA ((E1++[(e0,.slice A1 n1 d1,.slice A2 n2 d2)])++List.replicate (cap-(n+1)) kf))→jq W g ((E1++[(e0,.slice A1 n1 d1,.slice A2 n2 d2)])++List.replicate (cap-(n+1)) kf) (L++[x]):=by
  intro W g cap hB hO;refine⟨hO,by simp[hE1l];omega,fun a ha=> ?_,fun j a q ha hq=> ?_⟩
  ·simp only[Qby,Qb3] at ha
   rcases ha with (ha | ha) | ha
   ·exact h1.noi a (by rw[hE1] at ha;exact Qbp ha)
   ·subst ha;exact⟨jr _ _ _,jr _ _ _⟩
   ·rw[QaU ha];exact⟨jr _ _ _,jr _ _ _⟩
  ·have hj:j<(L++[x]).length:=(List.getElem?_eq_some_iff.1 hq).1
   rw[Qaf,QaZ] at hj;rw[QaB (by simp[hE1l];omega)] at ha;rcases Qae j n with hjn | hjn
   ·rw[QaB (by omega)] at ha
    rw[QaB (by omega)] at hq;rw[hE1,QbR,if_pos hjn] at ha;exact(h1.num j a q ha hq).below hB
   ·have:j=n:=by omega
    subst this;rw[QaH (by omega),hE1l] at ha;rw[QaH (by omega),←hn] at hq;simp at ha hq;subst ha hq;exact hrt.below hB
 have Hfin:=hid hfin;have Hn1:=hid hnews1;have Hn2:=hid hnews2;have Ho1:=hid hone1;have HE1l:=hid hE1l;have HnL:Hid ((L++[x]).length=n+1):=hid (by simp[hn]);have Hs:=hid hs;have Hi:=hid hi;have GR:=hid (fun W=>Ae (n+1) W (by omega) (by omega));clear hfin hnews1 hnews2 hone1 hE1l hE1 hrt he y0 y1 y2 h1 h2 ho hn hlen1 hx hi hz hs hb;generalize hel:((e0,.slice A1 n1 d1,.slice A2 n2 d2):El)=el at *;have Hone2:Hid (∀u∈jA [el],u.oneCell'=true):=hid (by rw[←hel];exact QH _ _ _ _ _ _ _);clear hel;go_enter Tryz.func107,Tryz.ntmps107
 go_wp2_with fail
 go_loopg [3,11] 2 (fun gh s i wr=>(∃k sz:Nat,i = .int .i64 k∧s = .int .i64 sz∧k+gh=2∧(sz=if k=0 then 0 else if k=1 then n else n+1))∧w=wr)
 case atStart=>exact⟨⟨0,0,rfl,rfl,rfl,rfl⟩,rfl⟩
 case round=>
  obtain⟨⟨k,sz,rfl,rfl,hk,hsz⟩,rfl⟩:=hrel;rcases gk with _ | _ | _ | gk
  ·obtain rfl:k=2:=by omega
   have hsz2:sz=n+1:=hsz;subst hsz2;clear hsz;have GR2:=hid (GR.out w)
   go_wp2_with (go_at_call 145;refine GR2.out.mono ?_;rintro ee w1 ⟨cap,rfl,hc1,hc2,hO,hB⟩)
   have HO0:Hid (ja w1 w.heap.size 69 (jA ([]++List.replicate (cap-([]:List El).length) kf))):=hid hO;have HB:=hid hB;clear hO hB GR GR2;unfold maxLen at hc2
   go_loopg [6,27] 2 (fun gh v i wr=>(∃(k:Nat) (E:List El),i = .int .i64 k∧v = .slice (some ⟨w.heap.size,0,none⟩) E.length cap∧k+gh=2∧Hid (E=if k=0 then [] else if k=1 then E1 else E1++[el])∧Hid (ja wr w.heap.size 69 (jA (E++List.replicate (cap-E.length) kf))))∧Hid (Below w.heap.size w wr))
   case atStart=>exact⟨⟨0,[],rfl,rfl,rfl,hid rfl,HO0⟩,HB⟩
   case round=>
    clear HO0 HB;obtain⟨⟨k,E,rfl,rfl,hk2,hE,hO⟩,hB⟩:=hrel;rcases gk with _ | _ | _ | gk
    ·obtain rfl:k=2:=by omega
     have hE2:Hid (E=E1++[el]):=hid hE.out;have hEl:Hid (E.length=n+1):=hid (by rw[hE2.out,Qaf,HE1l.out];rfl);clear hE
     go_wp2
     go_ret;have hO':=hO.out;rw[hEl.out,hE2.out] at hO';exact⟨w.heap.size,cap,_,by rw[HnL.out,←hEl.out];rfl,Nat.le_refl _,by rw[HnL.out];exact hc1,by unfold maxLen;exact hc2,Hfin.out _ _ _ hB.out hO',hB.out⟩
    ·obtain rfl:k=1:=by omega
     have hE2:Hid (E=E1):=hid hE.out;have hEl:Hid (E.length=n):=hid (by rw[hE2.out,HE1l.out]);have hcell:=(hB.out.cell (p:=⟨bl,1,none⟩) hll).trans hcl1;have hgl:=hO.out.lt;have hllr:bl<wr.heap.size:=Qac hll hB.out.size;have Hrun:=hid (fun ty=>run_append_room (P:=Tryz.prog) wr 72 ty 69 i Tryz.underlying72 Hi.out w.heap.size E.length cap _ hO.out ⟨b2,o*3,none⟩ 1 c2 (jA [el]) (by rw[qP,Hs.out];rfl) (Hn2.out _ hB.out) Hone2.out (by rw[hEl.out];exact hc1) (by rw[Hs.out];simp[qP,hEl.out];omega));rw[Hs.out] at Hrun;have hsp:=V3 E [el] (c:=cap) (by rw[hEl.out];exact hc1)
     have Hrun2:Hid (∀ty,(Builtin.append_ #[72,72] ty #[.slice (some ⟨w.heap.size,0,none⟩) E.length cap,.slice (some ⟨b2,o*3,none⟩) 1 c2]).run Tryz.prog wr = .ok (.slice (some ⟨w.heap.size,0,none⟩) (E++[el]).length cap) (wr.setRow w.heap.size (jA ((E++[el])++List.replicate (cap-(E++[el]).length) kf)).toArray)):=hid (by
      intro ty;have h:=Hrun.out ty;rw[List.toList_toArray,hsp] at h
      rw[h,Qaf];rfl)
     have HO2:Hid (ja (wr.setRow w.heap.size (jA ((E++[el])++List.replicate (cap-(E++[el]).length) kf)).toArray) w.heap.size 69 (jA ((E++[el])++List.replicate (cap-(E++[el]).length) kf))):=hid (setRow_heap wr w.heap.size _ _ 69 (0,0) hO.out);have HB2:Hid (Below w.heap.size w (wr.setRow w.heap.size (jA ((E++[el])++List.replicate (cap-(E++[el]).length) kf)).toArray)):=hid (below_setRow hB.out (Nat.le_refl _) _);clear hsp Hrun hO hB
     obtain⟨E2,hE22⟩:∃E2,E2=E++[el]:=⟨_,rfl⟩
     rw[←hE22] at Hrun2 HO2 HB2;have HE22:Hid (E2=E1++[el]):=hid (by rw[hE22,hE2.out]);clear hE22
     go_wp2_with (at_builtin;(refine Lib.wpList_append_run _ rfl _ _ _ _ rfl _ _ rfl rfl _ _ (Hrun2.out _) ?_))
     go_roundg 0
     case rel=>exact⟨⟨2,E2,by go_num,rfl,rfl,hid (by rw[HE22.out];rfl),HO2⟩,HB2⟩
     case measure=>omega
    ·obtain rfl:k=0:=by omega
     have hE2:E=[]:=hE.out;subst hE2;have hcell:=(hB.out.cell (p:=⟨bl,0,none⟩) hll).trans hcl0;have hgl:=hO.out.lt;have hllr:bl<wr.heap.size:=Qac hll hB.out.size;have Hrun:=hid (fun ty=>run_append_room (P:=Tryz.prog) wr 72 ty 69 i Tryz.underlying72 Hi.out w.heap.size ([]:List El).length cap _ hO.out ⟨b1,0,none⟩ n c1 (jA E1) (by rw[qP,Hs.out,HE1l.out]) (Hn1.out _ hB.out) Ho1.out (by simp;omega) (by rw[Hs.out];simp[qP,HE1l.out];omega));rw[Hs.out] at Hrun;have hsp:=V3 [] E1 (c:=cap) (by rw[HE1l.out];simp;omega)
     have Hrun2:Hid (∀ty,(Builtin.append_ #[72,72] ty #[.slice (some ⟨w.heap.size,0,none⟩) 0 cap,.slice (some ⟨b1,0,none⟩) n c1]).run Tryz.prog wr = .ok (.slice (some ⟨w.heap.size,0,none⟩) E1.length cap) (wr.setRow w.heap.size (jA (E1++List.replicate (cap-E1.length) kf)).toArray)):=hid (by
      intro ty;have h:=Hrun.out ty;rw[List.toList_toArray,hsp] at h;simp only[QbA,Qbi,Qbe] at h;rw[HE1l.out] at *
      exact h)
     have HO2:Hid (ja (wr.setRow w.heap.size (jA (E1++List.replicate (cap-E1.length) kf)).toArray) w.heap.size 69 (jA (E1++List.replicate (cap-E1.length) kf))):=hid (setRow_heap wr w.heap.size _ _ 69 (0,0) hO.out);have HB2:Hid (Below w.heap.size w (wr.setRow w.heap.size (jA (E1++List.replicate (cap-E1.length) kf)).toArray)):=hid (below_setRow hB.out (Nat.le_refl _) _);clear hsp Hrun hO hB hE
     go_wp2_with (at_builtin;(refine Lib.wpList_append_run _ rfl _ _ _ _ rfl _ _ rfl rfl _ _ (Hrun2.out _) ?_))
     go_roundg 1
     case rel=>exact⟨⟨1,E1,by go_num,rfl,rfl,hid rfl,HO2⟩,HB2⟩
     case measure=>omega
    ·omega
  ·obtain rfl:k=1:=by omega
   have hsz2:sz=n:=hsz;subst hsz2;clear hsz
   go_wp2
   go_roundg 0
   case rel=>exact⟨⟨2,sz+1,by go_num,by go_num,rfl,rfl⟩,rfl⟩
   case measure=>omega
  ·obtain rfl:k=0:=by omega
   have hsz2:sz=0:=hsz;subst hsz2;clear hsz
   go_wp2
   go_roundg 1
   case rel=>exact⟨⟨1,n,by go_num,by first | rfl | simp | go_num,rfl,rfl⟩,rfl⟩
   case measure=>omega
  ·omega
abbrev jl:=List UInt8
def sv (l:jl):Value:= .string ⟨l.toArray⟩
def jN (L:List jl):List Value:=L.map sv
theorem kT (L:List jl):(jN L).length=L.length:=by simp[jN]
theorem JM (L:List jl) (k:Nat) (h:k<L.length):(jN L)[k]? =some (sv (L[k]?.getD [])):=by simp[jN,h]
def xd (l:jl):Prop:=l.length<4294967281∧qI l.length
def ky:List jl→Int
 | []=>0
 | l::r=>if (j6 l).1=0 then ky r else (j6 l).1
theorem MV (k:Nat) (L:List jl) {l:jl} (h:L[k]? =some l):ky (L.drop k)=if (j6 l).1=0 then ky (L.drop (k+1)) else (j6 l).1:=by
 obtain⟨hk,rfl⟩:=List.getElem?_eq_some_iff.1 h;rw[QaF hk];rfl
def jg (L:List jl):List Rat:=L.map fun l=>(j6 l).2
theorem Ot (L:List jl) (k:Nat) {l:jl} (h:L[k]? =some l):jg (L.take (k+1))=jg (L.take k)++[(j6 l).2]:=by
 unfold jg;rw[Qa5,h,QaQ];rfl
section
variable {w w':World} {b:Nat} {es:List El} {qs:List Rat}
theorem jq.raw (h:jq w b es qs) {j:Nat} (hj:j<es.length):∃x y z:Value,w.cell? ⟨b,j*3,none⟩=some x∧w.cell? ⟨b,j*3+1,none⟩=some y∧w.cell? ⟨b,j*3+2,none⟩=some z ∧
  w.frozen? ⟨b,j*3,none⟩=false∧w.frozen? ⟨b,j*3+1,none⟩=false∧w.frozen? ⟨b,j*3+2,none⟩=false:=by
 obtain⟨h1,h2,h3⟩:=XJ es j _ (Qaa hj);exact⟨_,_,_,(h.own.cell _).trans h1,(h.own.cell _).trans h2,(h.own.cell _).trans h3,h.own.free _,h.own.free _,h.own.free _⟩
theorem jq.push (h:jq w b es qs) {e:El} {q:Rat} (hj:qs.length<es.length) (hq:Rt w (qk e) q):
  jq (((w.setCell ⟨b,qs.length*3,none⟩ (.bool e.1)).setCell ⟨b,qs.length*3+1,none⟩ e.2.1).setCell ⟨b,qs.length*3+2,none⟩ e.2.2) b (es.set qs.length e) (qs++[q]):=by
 have hb:=jk.set3 w b (qs.length*3) (.bool e.1) e.2.1 e.2.2;have hn:=h.noInt;refine⟨?_,by simp;omega,fun a ha=> ?_,fun i a r hi hr=> ?_⟩
 ·rw[←VZ es qs.length e hj]
  exact((h.own.put _ _).put _ _).put _ _
 ·rcases QaN ha with ha | rfl
  ·exact h.noi a ha
  ·exact hq.elNo
 ·by_cases hij:i=qs.length
  ·subst hij
   rw[QaS hj] at hi;rw[QaH (Nat.le_refl _),QbE] at hr;obtain rfl:=QaE hi;obtain rfl:=QaE hr;exact hq.stay h.own hn hb
  ·have hil:i<(qs++[q]).length:=(List.getElem?_eq_some_iff.1 hr).1
   rw[Qaf,QaZ] at hil;rw[Qbq (fun e=>hij e.symm)] at hi;rw[QaB (by omega)] at hr;exact(h.num i a r hi hr).stay h.own hn hb
end
def Ng (L:List jl) (w:World) (e:Ending) (w':World):Prop:=
 Below w.heap.size w w'∧((ky L=0 ∧ ∃g es,e = .returned (.tuple #[.slice (some ⟨g,0,none⟩) L.length L.length,.int .i64 0])∧w.heap.size≤g∧jq w' g es (jg L))∨(ky L≠0∧e = .returned (.tuple #[jn,.int .i64 (ky L)])))
theorem VG (v:Value) (L:List jl) (w:World) (hv:jD w v (jN L)) (hl:L.length≤1000000) (hT:∀l∈L,xd l) (hG:jK w):
  Calls Tryz.prog 76 #[v,.func (.func 36) #[] #[]] w (Ng L w):=by
 obtain⟨A,c,rfl,hc1,hc2,hcell⟩:=hv;simp only[kT] at hc1 hcell ⊢;have hmk:=ZG w kf L.length hl
 have HO:Hid (jq (w.alloc (.cells (kM kf L.length 0).toArray 69)) w.heap.size (List.replicate L.length kf) (jg (L.take 0))):=hid (by
  refine⟨?_,by simp[jg],fun e he=> ?_,fun i e q h1 h2=>by simp[jg] at h2⟩
  ·have:=ja.make w 69 (kM kf L.length 0)
   rw[show kM kf L.length 0=jA (List.replicate L.length kf) by simp[kM]] at this ⊢;exact this
  ·rw[QaU he];exact⟨jr _ _ _,jr _ _ _⟩)
 have HT:=hid hT;have HG:=hid hG;have HC:=hid hcell;clear hT hG hcell;go_enter Tryz.func76,Tryz.ntmps76
 go_wp2_with fail
 clear hmk
 go_loopg [15] L.length (fun gh i wr=>∃(k:Nat) (es:List El),i = .int .i64 k∧k+gh=L.length∧Hid (ky L=ky (L.drop k))∧Hid (jq wr w.heap.size es (jg (L.take k)))∧Hid (es.length=L.length)∧Hid (Below w.heap.size w wr))
 case atStart=>exact⟨0,_,rfl,by omega,hid rfl,HO,hid (by simp),hid ((Below.refl _ _).alloc (Nat.le_refl _) _)⟩
 case round=>
  clear HO;obtain⟨k,es,rfl,hk,hE,hO,hEl,hB⟩:=hrel
  cases gk with
  | zero=>
   have hkl:k=L.length:=by omega
   have hin:¬((k:Int)<(L.length:Int)):=by omega
   have HR:Hid (ky L=0):=hid (by rw[hE.out,hkl,List.drop_length];rfl);have HO:=hid (show jq wr w.heap.size es (jg L) by have:=hO.out;rwa [hkl,Qad (Nat.le_refl _)] at this);clear hkl hO hE hk
   go_wp2
   go_ret2;exact⟨hB.out,.inl ⟨HR.out,_,es,rfl,Nat.le_refl _,HO.out⟩⟩
  | succ gh=>
   have hlt:k<L.length:=by omega
   have hlt':(k:Int)<(L.length:Int):=by omega
   obtain⟨l,hl0⟩:∃l,L[k]? =some l:=⟨L[k],Qaa hlt⟩
   obtain⟨b0,off,rfl,hbb,hcell⟩:=HC.out (by omega);have hck:=(hB.out.cell (p:=⟨b0,off+k,none⟩) hbb).trans ((hcell k hlt).trans (by rw[JM L k hlt,hl0];rfl:(jN L)[k]? =some (sv l)))
   have hql:(jg (L.take k)).length=k:=by simp[jg];omega
   have hkes:k<es.length:=by rw[hEl.out];exact hlt
   obtain⟨x0,x1,x2,c0,c1,c2,f0,f1,f2⟩:=hO.out.raw hkes;have hbl:=hO.out.own.lt;have HD:=hid (MV k L hl0);have HV:=hid (Ot L k hl0);have Hk:=hid hk;have Hql:=hid hql;have hok:=HT.out l (Qab hl0);have RD:=hid (Mj l wr hok.1 (HG.out.below hB.out) hok.2);unfold sv at hck;clear hcell hl0 hk hql hok
   go_wp2_with fail
   refine RD.out.mono ?_;clear RD;rintro e w1 h;by_cases h1:(j6 l).1=0
   ·obtain⟨qv,rfl,hq,hB1⟩:JH (j6 l).2 wr e w1:=by unfold zM at h;rw[if_pos h1] at h;exact h
    obtain⟨s,Q1,n1,d1,Q2,n2,d2,rfl⟩:=hq.shape;have c0':=(hB1.cell (p:=⟨w.heap.size,k*3,none⟩) hbl).trans c0;have c1':=(hB1.cell (p:=⟨w.heap.size,k*3+1,none⟩) hbl).trans c1;have c2':=(hB1.cell (p:=⟨w.heap.size,k*3+2,none⟩) hbl).trans c2;have f0':=(hB1.frozen (p:=⟨w.heap.size,k*3,none⟩) hbl).trans f0;have f1':=(hB1.frozen (p:=⟨w.heap.size,k*3+1,none⟩) hbl).trans f1;have f2':=(hB1.frozen (p:=⟨w.heap.size,k*3+2,none⟩) hbl).trans f2;have hbl1:w.heap.size<w1.heap.size:=Qac hbl hB1.size;have HE2:Hid (ky L=ky (L.drop (k+1))):=hid (by rw[hE.out,HD.out,if_pos h1])
    have HO2:Hid (jq (((w1.setCell ⟨w.heap.size,k*3,none⟩ (.bool s)).setCell ⟨w.heap.size,k*3+1,none⟩ (.slice Q1 n1 d1)).setCell ⟨w.heap.size,k*3+2,none⟩ (.slice Q2 n2 d2)) w.heap.size (es.set k (s,.slice Q1 n1 d1,.slice Q2 n2 d2)) (jg (L.take (k+1)))):=hid (by
     have:=(hO.out.below hB1).push (e:=(s,.slice Q1 n1 d1,.slice Q2 n2 d2)) (q:=(j6 l).2) (by rw[Hql.out];exact hkes) hq;rw[Hql.out,←HV.out] at this
     exact this)
    have HB2:=hid ((((hB.out.trans (hB1.mono hB.out.size)).setCell (p:=⟨w.heap.size,k*3,none⟩) (Nat.le_refl _) (.bool s)).setCell (p:=⟨w.heap.size,k*3+1,none⟩) (Nat.le_refl _) (.slice Q1 n1 d1)).setCell (p:=⟨w.heap.size,k*3+2,none⟩) (Nat.le_refl _) (.slice Q2 n2 d2));have HL2:Hid ((es.set k (s,.slice Q1 n1 d1,.slice Q2 n2 d2)).length=L.length):=hid (by rw[Qbz];exact hEl.out);generalize es.set k (s,.slice Q1 n1 d1,.slice Q2 n2 d2)=es2 at *;clear h h1 hq hB1 hO hE hB c0 c1 c2 f0 f1 f2 hkes HV HD
    go_wp2
    go_roundg gh
    case rel=>exact⟨k+1,es2,by go_num,by have:=Hk.out;omega,HE2,HO2,HL2,HB2⟩
    case measure=>omega
   ·obtain⟨rfl,hB1⟩:ql (j6 l).1 wr e w1:=by unfold zM at h;rw[if_neg h1] at h;exact h
    have c0':=(hB1.cell (p:=⟨w.heap.size,k*3,none⟩) hbl).trans c0;have c1':=(hB1.cell (p:=⟨w.heap.size,k*3+1,none⟩) hbl).trans c1;have c2':=(hB1.cell (p:=⟨w.heap.size,k*3+2,none⟩) hbl).trans c2;have f0':=(hB1.frozen (p:=⟨w.heap.size,k*3,none⟩) hbl).trans f0;have f1':=(hB1.frozen (p:=⟨w.heap.size,k*3+1,none⟩) hbl).trans f1;have f2':=(hB1.frozen (p:=⟨w.heap.size,k*3+2,none⟩) hbl).trans f2;have hbl1:w.heap.size<w1.heap.size:=Qac hbl hB1.size;have HR:Hid (ky L=(j6 l).1):=hid (by rw[hE.out,HD.out,if_neg h1]);have HB2:=hid ((((hB.out.trans (hB1.mono hB.out.size)).setCell (p:=⟨w.heap.size,k*3,none⟩) (Nat.le_refl _) (.bool false)).setCell (p:=⟨w.heap.size,k*3+1,none⟩) (Nat.le_refl _) (.slice none 0 0)).setCell (p:=⟨w.heap.size,k*3+2,none⟩) (Nat.le_refl _) (.slice none 0 0))
    have h1':((j6 l).1 != 0)=true:=by simpa using h1
    have H1:=hid h1;unfold kd;generalize (j6 l).1=ec at *;clear h h1 hB1 hO hE hB c0 c1 c2 f0 f1 f2 hkes HV HD
    go_wp2
    go_ret2;exact⟨HB2.out,.inr ⟨by rw[HR.out];exact H1.out,by rw[HR.out];rfl⟩⟩
def Dg (w:World) (v:Value) (x:Nat):Prop:=∃ws,jb ws=x∧jI ws∧kp ws∧jD w v (jm ws)
theorem Dg.below {w w':World} {v:Value} {x:Nat} (h:Dg w v x) (hb:Below w.heap.size w w'):Dg w' v x:=by
 obtain⟨ws,h1,h2,h3,h4⟩:=h;exact⟨ws,h1,h2,h3,h4.below hb⟩
theorem Dg.open_ {w:World} {v:Value} {x:Nat} (h:Dg w v x):∃ws A c,v = .slice A ws.length c∧jb ws=x∧jI ws∧kp ws∧ws.length≤c∧ws.length≤140737488355328∧jD w (.slice A ws.length c) (jm ws):=by
 obtain⟨ws,h1,h2,h3,h4⟩:=h;obtain⟨A,c,rfl,h5,h6⟩:=h4.form;rw[kh] at *;exact⟨ws,A,c,rfl,h1,h2,h3,h5,h6,h4⟩
@[irreducible] def xN:Nat:=1000000
theorem XZ:xN≤1000000:=by unfold xN;exact Nat.le_refl _
def jQ (x:Nat):Prop:=x<B9^xN
theorem jQ.le {x y:Nat} (h:jQ x) (hy:y≤x):jQ y:=Qax hy h
theorem jQ.len {ws:List Nat} {x:Nat} (h:jQ x) (hn:kp ws) (hv:jb ws=x):ws.length≤1000000:=Qap (Qj hn (by rw[hv];exact h)) XZ
theorem Ri.dg {w:World} {v:Value} {x:Int} (h:Ri w v x):∃dv,v = .agg #[.bool (decide (x<0)),dv]∧Dg w dv x.natAbs:=by
 obtain⟨dv,ws,h1,h2,h3,h4,h5⟩:=h;exact⟨dv,h1,ws,h2,h3,h4,h5⟩
theorem C4 {a b:List Nat} (ha:jI a) (hb:kp b) (h:a.length<b.length):kq (jb a) (jb b) = -1:=JI (Xp ha hb h)
theorem GM {x y:Nat} (h:y<x):kq x y=1:=by unfold kq;rw[if_neg (by omega),if_pos h]
theorem C3 (x:Nat):kq x x=0:=by unfold kq;rw[if_neg (by omega),if_neg (by omega)]
theorem N8 {p q:List Nat} {k:Nat} (hp:k<p.length) (hq:k<q.length) (h:p.drop (k+1)=q.drop (k+1)) (he:p[k]?.getD 0=q[k]?.getD 0):p.drop k=q.drop k:=by
 rw[J0 p k hp,J0 q k hq,h,he]
theorem Qm (v u:Value) (x y:Nat) (w:World) (hv:Dg w v x) (hu:Dg w u y):
  Calls Tryz.prog 185 #[v,u] w fun e w'=>e = .returned (.int .i64 (kq x y))∧Below w.heap.size w w':=by
 obtain⟨p,A,c,rfl,e1,o1,n1,l1,l2,s1⟩:=hv.open_;obtain⟨q,B,d,rfl,e2,o2,n2,m1,m2,s2⟩:=hu.open_
 obtain⟨r,hr⟩:∃r,kq x y=r:=⟨_,rfl⟩
 rw[hr];subst e1 e2;by_cases hl:p.length<q.length
 ·have HR:Hid (r = -1):=hid (by rw[←hr];exact C4 o1 n2 hl)
  have hb:((p.length:Int) != (q.length:Int))=true:=by simpa using (by omega:¬(p.length:Int)=q.length)
  have hlI:(p.length:Int)<(q.length:Int):=by omega
  clear hv hu s1 s2 hr n1 n2 o1 o2;go_enter Tryz.func185,Tryz.ntmps185
  go_wp2
  go_ret;exact⟨by rw[HR.out];rfl,Below.refl _ _⟩
 by_cases hl2:q.length<p.length
 ·have HR:Hid (r=1):=hid (by rw[←hr];exact GM (Xp o2 n1 hl2))
  have hb:((p.length:Int) != (q.length:Int))=true:=by simpa using (by omega:¬(p.length:Int)=q.length)
  have hlI:¬(p.length:Int)<(q.length:Int):=by omega
  clear hv hu s1 s2 hr n1 n2 o1 o2;go_enter Tryz.func185,Tryz.ntmps185
  go_wp2
  go_ret;exact⟨by rw[HR.out];rfl,Below.refl _ _⟩
 have hle:p.length=q.length:=by omega
 have hb:((p.length:Int) != (q.length:Int))=false:=by rw[hle];simp
 have HL:=hid hle;have HR:=hid hr;have HO:=hid (And.intro o1 o2);have HS1:=hid s1;have HS2:=hid s2;clear hv hu s1 s2 hr n1 n2 o1 o2 hl hl2 hle;go_enter Tryz.func185,Tryz.ntmps185
 go_wp2_with fail
 go_loopg [5] p.length (fun g i wr=>i = .int .i64 ((g:Int)-1)∧g≤p.length∧Hid (p.drop g=q.drop g)∧Below w.heap.size w wr)
 case atStart=>exact⟨by go_num,Nat.le_refl _,hid (by rw[List.drop_length,HL.out,List.drop_length]),Below.refl _ _⟩
 case round=>
  obtain⟨rfl,hg,hD,hB⟩:=hrel
  cases gk with
  | zero=>
   have hin:¬((0:Int)≤((0:Nat):Int)-1):=by omega
   have HE:Hid (r=0):=hid (by rw[←HR.out,show p=q from hD.out,C3]);clear hD
   go_wp2
   go_ret;exact⟨by rw[HE.out];rfl,hB⟩
  | succ k=>
   have hlt:k<p.length:=by omega
   have hlq:k<q.length:=by have:=HL.out;omega
   obtain⟨b1,off1,rfl,hbb1,hcell1⟩:=HS1.out.at_ (k:=k) (by rw[kh];omega);obtain⟨b2,off2,rfl,hbb2,hcell2⟩:=HS2.out.at_ (k:=k) (by rw[kh];omega);have hck1:=(hB.cell (p:=⟨b1,off1+k,none⟩) hbb1).trans ((hcell1 k (by rw[kh];omega)).trans (qq p k hlt));have hck2:=(hB.cell (p:=⟨b2,off2+k,none⟩) hbb2).trans ((hcell2 k (by rw[kh];omega)).trans (qq q k hlq));have HST:=hid (fun he=>N8 hlt hlq hD.out he);have HLT:Hid (p[k]?.getD 0<q[k]?.getD 0→r = -1):=hid (fun h=>by rw[←HR.out];exact JI (Vv HO.out.1 HL.out k hlt hD.out h));have HGT:Hid (q[k]?.getD 0<p[k]?.getD 0→r=1):=hid (fun h=>by rw[←HR.out];exact GM (Vv HO.out.2 HL.out.symm k hlq hD.out.symm h));clear hcell1 hcell2 hD;generalize p[k]?.getD 0=s at *;generalize q[k]?.getD 0=t at *;by_cases h1:s<t
   ·have h1I:(s:Int)<(t:Int):=by omega
    have HE:=hid (HLT.out h1);clear h1 HLT HGT HST
    go_wp2
    go_quiet (fail)
    have hB':=below_drewN hB nq
    go_wp2
    go_ret;exact⟨by rw[HE.out];rfl,hB'⟩
   ·by_cases h2:t<s
    ·have h1I:¬(s:Int)<(t:Int):=by omega
     have h2I:(t:Int)<(s:Int):=by omega
     have HE:=hid (HGT.out h2);clear h1 h2 HLT HGT HST
     go_wp2
     go_quiet (fail)
     have hB':=below_drewN hB nq
     go_wp2
     go_quiet (fail)
     have hB2:=below_drewN hB' nq
     go_wp2
     go_ret;exact⟨by rw[HE.out];rfl,hB2⟩
    ·have h1I:¬(s:Int)<(t:Int):=by omega
     have h2I:¬(t:Int)<(s:Int):=by omega
     have HE:=hid (HST.out (by omega));clear h1 h2 HLT HGT HST
     go_wp2
     go_quiet (fail)
     have hB':=below_drewN hB nq
     go_wp2
     go_quiet (fail)
     have hB2:=below_drewN hB' nq
     go_wp2
     go_roundg k
     case rel=>exact⟨by go_num,by omega,HE,below_drewN hB _⟩
     case measure=>omega
def jT (w:World) (v:Value) (M:List (List jl)):Prop:=
 ∃vs:List Value,jD w v vs∧vs.length=M.length ∧ ∀(i:Nat) (r:List jl),M[i]? =some r → ∃u,vs[i]? =some u∧jD w u (jN r)
theorem jT.below {w w':World} {v:Value} {M:List (List jl)} (h:jT w v M) (hb:Below w.heap.size w w'):jT w' v M:=by
 obtain⟨vs,h1,h2,h3⟩:=h;exact⟨vs,h1.below hb,h2,fun i r hr=>by obtain⟨u,hu,hs⟩:=h3 i r hr;exact⟨u,hu,hs.below hb⟩⟩
theorem jT.form {w:World} {v:Value} {M:List (List jl)} (h:jT w v M):∃A c,v = .slice A M.length c∧M.length≤c∧M.length≤140737488355328:=by
 obtain⟨vs,h1,h2,_⟩:=h;obtain⟨A,c,h3,h4,h5⟩:=h1.form;rw[h2] at h3 h4 h5;exact⟨A,c,h3,h4,h5⟩
def xE (n0:Nat):List (List jl)→Int
 | []=>0
 | r::t=>if 256<r.length then 5 else if r.length≠n0 then 2 else if ky r=0 then xE n0 t else ky r
def jG (M:List (List jl)):Int:=if 256<M.length then 5 else xE ((M[0]?.map (·.length)).getD 0) M
theorem MX (n0 k:Nat) (M:List (List jl)) {r:List jl} (hr:M[k]? =some r):xE n0 (M.drop k)=if 256<r.length then 5 else if r.length≠n0 then 2 else if ky r=0 then xE n0 (M.drop (k+1)) else ky r:=by
 obtain⟨hk,rfl⟩:=List.getElem?_eq_some_iff.1 hr;rw[QaF hk];rfl
def Ok (M:List (List jl)) (w:World) (e:Ending) (w':World):Prop:=
 Below w.heap.size w w'∧((jG M=0 ∧ ∃(g:Nat) (R:List js),e = .returned (.tuple #[.slice (some ⟨g,0,none⟩) M.length M.length,.int .i64 0])∧w.heap.size≤g∧(∀r∈R,w.heap.size≤r.1)∧j5 w' g R ((M[0]?.map (·.length)).getD 0)∧jv R=M.map jg) ∨
  (jG M≠0∧e = .returned (.tuple #[jn,.int .i64 (jG M)])))
theorem KZ (v:Value) (M:List (List jl)) (w:World) (hv:jT w v M) (hT:∀r∈M,∀l∈r,xd l) (hG:jK w):
  Calls Tryz.prog 35 #[v,.func (.func 36) #[] #[]] w (Ok M w):=by
 obtain⟨vs,hs,hvl,hrow⟩:=hv;obtain⟨A,c,rfl,hc1,hc2⟩:=hs.form;have HROW:=hid hrow;have HT:=hid hT;have HG:=hid hG;clear hrow hT hG;rw[hvl] at hc1 hc2 hs ⊢;by_cases hbig:256<M.length
 ·have HE:Hid (jG M=5):=hid (by unfold jG;rw[if_pos hbig])
  have hbi:(256:Int)<(M.length:Int):=by omega
  clear hs;go_enter Tryz.func35,Tryz.ntmps35
  go_wp2
  go_ret2;exact⟨Below.refl _ _,.inr ⟨by rw[HE.out];decide,by rw[HE.out];rfl⟩⟩
 ·have hbi:¬(256:Int)<(M.length:Int):=by omega
  obtain⟨n,hn⟩:∃n,n=(M[0]?.map (·.length)).getD 0:=⟨_,rfl⟩
  have HN:=hid hn;have HME:Hid (jG M=xE n M):=hid (by unfold jG;rw[if_neg hbig,hn]);clear hn
  obtain⟨V,hV⟩:∃V,V=M.map jg:=⟨_,rfl⟩
  have HV:=hid hV;have HVl:Hid (V.length=M.length):=hid (by rw[hV];simp);clear hV;have hmk:=W7 w M.length (by omega);have HS0:Hid (xn w (w.alloc (.cells (List.replicate M.length jn).toArray 72)) w.heap.size n V 0 []):=hid (by have:=xn.start w V n;rw[HVl.out] at this;exact this);have hB0:Below w.heap.size w (w.alloc (.cells (List.replicate M.length jn).toArray 72)):=(Below.refl _ _).alloc (Nat.le_refl _) _;go_enter Tryz.func35,Tryz.ntmps35
  go_wp2_with fail
  clear hmk
  go_loopg [18] M.length (fun gh i wr=>∃(k:Nat) (R:List js),i = .int .i64 k∧k+gh=M.length∧Hid (xE n M=xE n (M.drop k))∧Hid (xn w wr w.heap.size n V k R)∧Below w.heap.size w wr)
  case atStart=>exact⟨0,[],rfl,by omega,hid rfl,HS0,hB0⟩
  case round=>
   clear HS0 hB0;obtain⟨k,R,rfl,hk,hE,hTo,hB⟩:=hrel
   cases gk with
   | zero=>
    have hkl:k=M.length:=by omega
    have hin:¬((k:Int)<(M.length:Int)):=by omega
    have HR:Hid (jG M=0):=hid (by rw[HME.out,hE.out,hkl,List.drop_length];rfl);have HMX:=hid (show xn w wr w.heap.size n V V.length R by have:=hTo.out;rw[hkl,←HVl.out] at this;exact this).done;have HNW:=hid hTo.out.new;clear hE hTo hk hkl
    go_wp2
    go_ret2;exact⟨hB,.inl ⟨HR.out,_,R,rfl,Nat.le_refl _,HNW.out,HN.out ▸ HMX.out.1,HMX.out.2.1.trans HV.out⟩⟩
   | succ gh=>
    have hlt:k<M.length:=by omega
    have hlt':(k:Int)<(M.length:Int):=by omega
    obtain⟨r,hr⟩:∃r,M[k]? =some r:=⟨M[k],Qaa hlt⟩
    obtain⟨r0,hr0⟩:∃r,M[0]? =some r:=⟨M[0]'(by omega),Qaa _⟩
    have hn0:r0.length=n:=by rw[HN.out,hr0];rfl
    obtain⟨u,hu,hus⟩:=HROW.out k r hr;obtain⟨u0,hu0,hus0⟩:=HROW.out 0 r0 hr0;obtain⟨b0,off,hA,hbb,hcell⟩:=hs.at_ (k:=k) (by omega);have hc1':=(hB.cell (p:=⟨b0,off+k,none⟩) hbb).trans ((hcell k (by omega)).trans hu);have hc0':=(hB.cell (p:=⟨b0,off,none⟩) hbb).trans ((hcell 0 (by omega)).trans hu0);obtain⟨A1,k1,rfl,hk1,hk2⟩:=hus.form;obtain⟨A0,k0,rfl,hk3,hk4⟩:=hus0.form;simp only[kT] at hk1 hk2 hk3 hk4 hus hc1' hc0';rw[hn0] at hc0';have HD:=hid (MX n k M hr);have Hk:=hid hk;have HVr:Hid (V[k]? =some (jg r)):=hid (by rw[HV.out,Qao,hr];rfl);have HTr:=hid (HT.out r (Qab hr));have CV:=hid (fun (hl:r.length≤1000000) W (hw:Below w.heap.size w W)=>VG (.slice A1 r.length k1) r W (hus.below hw) hl HTr.out (HG.out.below hw));subst hA;clear hu hu0 hus hus0 hcell hr hr0 hn0 hk hc1 hs;by_cases h1:256<r.length
    ·have hr1:(256:Int)<(r.length:Int):=by omega
     have HR:Hid (jG M=5):=hid (by rw[HME.out,hE.out,HD.out,if_pos h1])
     go_wp2
     go_ret2;exact⟨hB,.inr ⟨by rw[HR.out];decide,by rw[HR.out];rfl⟩⟩
    ·have hr1:¬(256:Int)<(r.length:Int):=by omega
     by_cases h2:r.length=n
     ·subst h2
      have CV2:=hid (CV.out (by omega) wr hB);have hgl:=hTo.out.own.lt
      have hck:=(hTo.out.own.cell k).trans (show _=some jn by
       rw[QaH (by rw[Qar,hTo.out.len (by rw[HVl.out];omega)];exact Nat.le_refl _),Qar,hTo.out.len (by rw[HVl.out];omega),QbE,Qbk,if_pos (by rw[HVl.out];omega)])
      have hfk:=hTo.out.own.free k
      have hrn:r.length≤256:=by omega
      go_wp2_with fail
      refine CV2.out.mono ?_;rintro e w1 ⟨hB1,⟨hib,gn,esn,rfl,hg,hO1⟩ | ⟨hib,rfl⟩⟩
      ·have hck1:=(hB1.cell (p:=⟨w.heap.size,k,none⟩) hgl).trans hck
       have hfk1:=(hB1.frozen (p:=⟨w.heap.size,k,none⟩) hgl).trans hfk;have HT2:=hid (hTo.out.step (cn:=r.length) HVr.out (by simp[jg]) (Nat.le_refl _) (by omega) hB1 hg (Qap hB.size hg) hO1);have HE2:Hid (xE r.length M=xE r.length (M.drop (k+1))):=hid (by rw[hE.out,HD.out,if_neg h1,if_neg (by simp),if_pos hib]);have HB2:=hid ((hB.trans (hB1.mono hB.size)).setCell (p:=⟨w.heap.size,k,none⟩) (Nat.le_refl _) (.slice (some ⟨gn,0,none⟩) r.length r.length));clear hTo hE hck hfk hib hO1
       go_wp2
       go_roundg gh
       case rel=>exact⟨k+1,_,by go_num,by have:=Hk.out;omega,HE2,HT2,HB2.out⟩
       case measure=>omega
      ·have hck1:=(hB1.cell (p:=⟨w.heap.size,k,none⟩) hgl).trans hck
       have hfk1:=(hB1.frozen (p:=⟨w.heap.size,k,none⟩) hgl).trans hfk;have HR:Hid (jG M=ky r):=hid (by rw[HME.out,hE.out,HD.out,if_neg h1,if_neg (by simp),if_neg hib]);have HB2:=hid ((hB.trans (hB1.mono hB.size)).setCell (p:=⟨w.heap.size,k,none⟩) (Nat.le_refl _) jn)
       have hne:(ky r != 0)=true:=by simpa using hib
       have HIB:=hid hib;generalize ky r=ec at *;clear hTo hE hck hfk hib
       go_wp2
       go_ret2;exact⟨HB2.out,.inr ⟨by rw[HR.out];exact HIB.out,by rw[HR.out];rfl⟩⟩
     ·have hr2:((r.length:Int) != (n:Int))=true:=by simp;omega
      have HR:Hid (jG M=2):=hid (by rw[HME.out,hE.out,HD.out,if_neg h1,if_pos h2])
      go_wp2
      go_ret2;exact⟨hB,.inr ⟨by rw[HR.out];decide,by rw[HR.out];rfl⟩⟩
