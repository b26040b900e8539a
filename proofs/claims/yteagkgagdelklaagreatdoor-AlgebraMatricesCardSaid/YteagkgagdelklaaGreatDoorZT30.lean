/- Contract: a natural number shifted to the left by less than a word. -/
import Derived.Test.YteagkgagdelklaaGreatDoorZT27
set_option maxRecDepth 100000
set_option maxHeartbeats 4000000
namespace Go.Proofs.YteagkgagdelklaaGreatDoor
open Go.RowKit Go.Lib
def zW (xs L:List Nat) (s k:Nat):Prop:=L.length=xs.length+1∧jJ L∧jd (L.take (k+1))=jd (xs.take k)*2^s∧L[k]?.getD 0<2^s
theorem zW.start (xs:List Nat) (s:Nat):zW xs (List.replicate (xs.length+1) 0) s 0:=by
 refine⟨by simp,fun x hx=>by rw[QaU hx];decide,?_,?_⟩
 ·simp[List.replicate_succ,jd]
 ·simp;exact Qbs s
theorem OF {x z s:Nat} (hx:x<WB) (hs:s<64) (hz:z<2^s):∃b d:Nat,IntKind.u64.wrap ((x:Int)*2^s)=(b:Int)∧bits .or .u64 (z:Int) (b:Int)=((z+b:Nat):Int)∧(x:Int)/2^(64-s)=(d:Int)∧b+WB*d=x*2^s∧z+b<WB∧d<2^s∧d<WB:=by
 have hP:0<2^s:=Qbs s
 have hPD:2^(64-s)*2^s=WB:=by rw[←Qbj,show 64-s+s=64 by omega]
 have cP:((2:Int)^s)=((2^s:Nat):Int):=by simp
 have cD:((2:Int)^(64-s))=((2^(64-s):Nat):Int):=by simp
 have hdv:x/2^(64-s)<2^s:=QbT (by rw[hPD];exact hx)
 have hmd:x*2^s/WB=x/2^(64-s):=by rw[←hPD];exact Nat.mul_div_mul_right _ _ hP
 have hPW:2^s<WB:=by
  have:2^s≤2^63:=Qai (by decide) (by omega);exact Qax this (by decide)
 -- the lower part is a multiple of 2^s
 have hmul:x*2^s%WB=(x%2^(64-s))*2^s:=by rw[←hPD];exact Qci _ _ _
 have hm:=QaI x (Qbs (64-s))
 have hb:(x%2^(64-s)+1)*2^s≤WB:=by rw[←hPD];exact Qas _ hm
 rw[Qaz,Qbd] at hb;have hbl:x*2^s%WB<WB:=QaI _ (by decide)
 have hor:z ||| (x%2^(64-s))*2^s=z+(x%2^(64-s))*2^s:=by
  rw[Nat.or_comm,Qam,Qcr];exact(Qch hz _).symm
 refine⟨x*2^s%WB,x/2^(64-s),?_,?_,by rw[cD,←Qbn],?_,by omega,hdv,by omega⟩
 ·rw[cP,←QaM,jM]
  generalize x*2^s=y;unfold WB;omega
 ·have hzw:z<18446744073709551616:=Nat.lt_trans hz hPW
  rw[bits_or_u64_nat z _ hzw hbl,hmul,hor]
 ·have:=QaP (x*2^s) WB
  rw[hmd] at this;omega
theorem zW.step {xs L:List Nat} {s k b d:Nat} (h:zW xs L s k) (hk:k<xs.length) (e:b+WB*d=xs[k]?.getD 0*2^s) (hb:L[k]?.getD 0+b<WB) (hd:d<2^s) (hdw:d<WB):
  zW xs ((L.set k (L[k]?.getD 0+b)).set (k+1) d) s (k+1):=by
 obtain⟨h1,h2,h3,h4⟩:=h
 have hl:k<L.length:=by omega
 have hl2:k+1<L.length:=by omega
 refine⟨by simp[h1],fun x hx=> ?_,?_,?_⟩
 ·rcases QaN hx with hx | rfl
  ·rcases QaN hx with hx | rfl
   ·exact h2 x hx
   ·exact hb
  ·exact hdw
 ·have e1:((L.set k (L[k]?.getD 0+b)).set (k+1) d).take (k+2)=L.take k++[L[k]?.getD 0+b]++[d]:=by
   rw[zl _ (k+1) (by simp;omega),QaS (by simp;omega),Qca (Nat.le_refl _),zl _ k (by simp;omega),QaS hl,Qca (Nat.le_refl _)];rfl
  rw[e1,JO,JO,zl xs k hk,JO,Qaz,←h3,zl L k hl,JO,Qal,←e];simp only[Qaf,Qak,QaR,QbA];rw[QaJ (by omega),QaJ (by omega),QaD,Qau,Qau,←Qal];omega
 ·rw[QaS (by simp;omega)];exact hd
theorem zW.last {xs L:List Nat} {s:Nat} (h:zW xs L s xs.length):jd L=jd xs*2^s:=by
 have:=h.2.2.1
 rwa [Qad (by have:=h.1;omega),Qad (Nat.le_refl _)] at this
def OE (xs:List Nat) (s:Nat) (w:World) (e:Ending) (w':World):Prop:=
 ∃L:List Nat,e = .returned (.slice (some ⟨w.heap.size,0,none⟩) (xs.length+1) (xs.length+1))∧ja w' w.heap.size 89 (jz L)∧L.length=xs.length+1∧jJ L∧jd L=jd xs*2^s∧Below w.heap.size w w'
theorem Ed (A:Option Addr) (c:Nat) (xs:List Nat) (s:Nat) (w:World) (hs:Sl w 1 (.slice A xs.length c) (jz xs)) (ho:jJ xs) (hl:xs.length≤8000000000000) (hs64:s<64):
  Calls Tryz.prog 202 #[.slice A xs.length c,.int .i64 s] w (OE xs s w):=by
 have hmk:=yK w (xs.length+1) (by omega);rw[show ((xs.length+1:Nat):Int)=(xs.length:Int)+1 from by omega] at hmk;have hown:=hid (ja.make w 89 (jz (List.replicate (xs.length+1) 0)));have hst:=hid (zW.start xs s);have hB1:Hid (Below w.heap.size w (w.alloc (.cells (jz (List.replicate (xs.length+1) 0)).toArray 89))):=hid ((Below.refl _ _).alloc (Nat.le_refl _) _);have HS:=hid hs;have HO:=hid ho;clear hs ho;go_enter Tryz.func202,Tryz.ntmps202
 go_wp2_with fail
 go_loopg [14] xs.length (fun gh i wr=>∃(k:Nat) (L:List Nat),i = .int .i64 k∧k+gh=xs.length∧Hid (zW xs L s k)∧Hid (ja wr w.heap.size 89 (jz L))∧Hid (Below w.heap.size w wr))
 case atStart=>exact⟨0,_,rfl,by omega,hst,hown,hB1⟩
 case round=>
  clear hmk hown hst hB1;obtain⟨k,L,rfl,hk,hI,hO,hB⟩:=hrel
  cases gk with
  | zero=>
   have hin:¬((k:Int)<(xs.length:Int)):=by omega
   have hk':k=xs.length:=by omega
   subst hk'
   go_wp2
   go_ret;exact⟨L,by rfl,hO.out,hI.out.1,hI.out.2.1,hI.out.last,hB.out⟩
  | succ gh=>
   have hlt:k<xs.length:=by omega
   have hin:((k:Int)<(xs.length:Int)):=by omega
   have hLl:=hI.out.1;obtain⟨b0,off,rfl,hbb,hcell⟩:=HS.out.at_ (k:=k) (by rw[jB];omega);have hck:=(hB.out.cell (p:=⟨b0,off+k,none⟩) hbb).trans ((hcell k (by rw[jB];omega)).trans (jP xs k (by omega)));have hck2:=(hO.out.cell k).trans (jP L k (by omega));have hck3:=(hO.out.cell (k+1)).trans (jP L (k+1) (by omega));have hfr:=hO.out.free k;have hfr3:=hO.out.free (k+1);have hgl:=hO.out.lt;have hbb2:=Qac hbb hB.out.size;obtain⟨b,d,f1,f2,f3,f4,f5,f6,f7⟩:=OF (ka HO.out k) hs64 hI.out.2.2.2;have HI2:=hid (hI.out.step hlt f4 f5 f6 f7);have HO2:=hid (hO.out.put k (.int .u64 ((L[k]?.getD 0+b:Nat):Int)));have HO3:=hid (HO2.out.put (k+1) (.int .u64 (d:Int)));rw[kN,kN] at HO3;have HB3:=hid ((hB.out.setCell (p:=⟨w.heap.size,k,none⟩) (by simp) (.int .u64 ((L[k]?.getD 0+b:Nat):Int))).setCell (p:=⟨w.heap.size,k+1,none⟩) (by simp) (.int .u64 (d:Int)));have Hk:=hid hk;clear hcell f4 f5 f6 f7 hk hLl HO2;generalize xs[k]?.getD 0=x at *;generalize L[k]?.getD 0=z at *;generalize L[k+1]?.getD 0=z1 at *
   go_upto_region 5 with fail
   go_region
   go_wp2
   go_roundg gh
   case rel=>exact⟨k+1,_,by go_num,by have:=Hk.out;omega,HI2,hid HO3.out,hid (HB3.out.drew)⟩
   case measure=>omega
structure zX (xs L:List Nat) (s k:Nat):Prop where
 len:L.length=xs.length
 ok:jJ L
 val:jd (L.take k)=(jd (xs.take k)+WB^k*(xs[k]?.getD 0%2^s))/2^s
theorem zX.start (xs:List Nat) (s:Nat):zX xs (List.replicate xs.length 0) s 0:=by
 refine⟨by simp,fun x hx=>by rw[QaU hx];decide,?_⟩;simp only[QbL,jd,Qb0,Qbd,Qbi];exact(Qbt (QaI _ (Qbs s))).symm
theorem O6 {x y s:Nat} (hx:x<WB) (hs:s<64):∃a d:Nat,(x:Int)/2^s=(a:Int)∧IntKind.u64.wrap ((y:Int)*2^(64-s))=(d:Int)∧bits .or .u64 (a:Int) (d:Int)=((a+d:Nat):Int)∧a=x/2^s∧d=y%2^s*2^(64-s)∧a+d<WB:=by
 have hP:0<2^s:=Qbs s
 have hPD:2^s*2^(64-s)=WB:=by rw[←Qbj,show s+(64-s)=64 by omega]
 have cP:((2:Int)^s)=((2^s:Nat):Int):=by simp
 have cD:((2:Int)^(64-s))=((2^(64-s):Nat):Int):=by simp
 have ha:x/2^s<2^(64-s):=QbT (by rw[hPD];exact hx)
 have hmul:y*2^(64-s)%WB=(y%2^s)*2^(64-s):=by rw[←hPD];exact Qci _ _ _
 have hm:=QaI y hP
 have hb:(y%2^s+1)*2^(64-s)≤WB:=by rw[←hPD];exact Qas _ hm
 rw[Qaz,Qbd] at hb
 have hsum:x/2^s+y%2^s*2^(64-s)<WB:=by omega
 have hor:x/2^s ||| (y%2^s)*2^(64-s)=x/2^s+(y%2^s)*2^(64-s):=by
  rw[Nat.or_comm,Qam,Qcr];exact(Qch ha _).symm
 refine⟨x/2^s,y%2^s*2^(64-s),by rw[cP,←Qbn],?_,?_,rfl,rfl,hsum⟩
 ·rw[cD,←QaM,jM,←hmul]
  generalize y*2^(64-s)=z;unfold WB;omega
 ·rw[bits_or_u64_nat _ _ (Qax (Qcn _ _) hsum) (Qax (Nat.le_add_left _ _) hsum),hor]
theorem zX.step {xs L:List Nat} {s k a d:Nat} (h:zX xs L s k) (hs:s<64) (hk:k<xs.length) (ha:a=xs[k]?.getD 0/2^s) (hd:d=xs[k+1]?.getD 0%2^s*2^(64-s)) (hw:a+d<WB):zX xs (L.set k (a+d)) s (k+1):=by
 obtain⟨h1,h2,h3⟩:=h;have hP:0<2^s:=Qbs s
 have hPD:2^s*2^(64-s)=WB:=by rw[←Qbj,show s+(64-s)=64 by omega]
 refine⟨by simp[h1],fun x hx=> ?_,?_⟩
 ·rcases QaN hx with hx | rfl
  ·exact h2 x hx
  ·exact hw
 ·have e1:(L.set k (a+d)).take (k+1)=L.take k++[a+d]:=by
   rw[zl _ k (by simp;omega),QaS (by omega),Qca (Nat.le_refl _)];rfl
  rw[e1,JO,h3,zl xs k hk,JO,Qak,Qak,QaJ (by omega),QaJ (by omega)];have hx:=QaP (xs[k]?.getD 0) (2^s);rw[←ha] at hx;generalize xs[k]?.getD 0%2^s=b at *;generalize xs[k+1]?.getD 0%2^s=y at *;generalize jd (xs.take k)=X at *;rw[←hx]
  have e2:X+WB^k*(2^s*a+b)+WB^(k+1)*y=X+WB^k*b+2^s*(WB^k*(a+d)):=by
   have q1:WB^k*(2^s*a)=2^s*(WB^k*a):=by rw[←Qal,Qam (WB^k),Qal]
   have q2:WB^(k+1)*y=2^s*(WB^k*d):=by
    rw[hd,QaD,←hPD];generalize WB^k=W;generalize 2^(64-s)=D;generalize 2^s=P
    ac_rfl
   rw[Qau (WB^k),Qau (WB^k),Qau (2^s),q1,q2];omega
  rw[e2,Nat.add_mul_div_left _ _ hP]
theorem zX.last {xs L:List Nat} {s:Nat} (h:zX xs L s xs.length):jd L=jd xs/2^s:=by
 have:=h.val;rw[Qad (by have:=h.len;omega),Qad (Nat.le_refl _),Qah (Nat.le_refl _)] at this;simpa using this
theorem OG (A:Option Addr) (c:Nat) (xs:List Nat) (s:Nat) (w:World) (hs:Sl w 1 (.slice A xs.length c) (jz xs)) (ho:jJ xs) (hl:xs.length≤8000000000000) (hs64:s<64):
  Calls Tryz.prog 206 #[.slice A xs.length c,.int .i64 s] w fun e w'=>∃v,e = .returned v∧Nt w' v (jd xs/2^s)∧Below w.heap.size w w':=by
 have hmk:=yK w xs.length (by omega);have hown:=hid (ja.make w 89 (jz (List.replicate xs.length 0)));have hst:=hid (zX.start xs s);have hB1:Hid (Below w.heap.size w (w.alloc (.cells (jz (List.replicate xs.length 0)).toArray 89))):=hid ((Below.refl _ _).alloc (Nat.le_refl _) _);have HS:=hid hs;have HO:=hid ho;clear hs ho;go_enter Tryz.func206,Tryz.ntmps206
 go_wp2_with fail
 go_loopg [13] xs.length (fun gh i wr=>∃(k:Nat) (L:List Nat),i = .int .i64 k∧k+gh=xs.length∧Hid (zX xs L s k)∧Hid (ja wr w.heap.size 89 (jz L))∧Hid (Below w.heap.size w wr))
 case atStart=>exact⟨0,_,rfl,by omega,hst,hown,hB1⟩
 case round=>
  clear hmk hown hst hB1;obtain⟨k,L,rfl,hk,hI,hO,hB⟩:=hrel
  cases gk with
  | zero=>
   have hin:¬((k:Int)<(xs.length:Int)):=by omega
   have hk':k=xs.length:=by omega
   subst hk';have hval:=hid hI.out.last;have hok:=hI.out.ok;have hlen:=hI.out.len;have hsl:=hid (hO.out.sl xs.length (by rw[jB,hlen]) (by omega));rw[←hlen] at hsl;have TR:=hid (zP _ _ _ _ wr hok hsl.out);rw[hlen] at TR;clear hok hlen hk
   go_wp2_with (go_at_call 104;refine TR.out.mono ?_;rintro e w' ⟨v,rfl,hv,rfl⟩)
   go_ret;exact⟨v,rfl,by rw[←hval.out];exact hv,hB.out⟩
  | succ gh=>
   have hlt:k<xs.length:=by omega
   have hin:((k:Int)<(xs.length:Int)):=by omega
   have hLl:=hI.out.len;obtain⟨b0,off,rfl,hbb,hcell⟩:=HS.out.at_ (k:=k) (by rw[jB];omega);have hck:=(hB.out.cell (p:=⟨b0,off+k,none⟩) hbb).trans ((hcell k (by rw[jB];omega)).trans (jP xs k (by omega)));have hck2:=(hO.out.cell k).trans (jP L k (by omega));have hfr:=hO.out.free k;have hgl:=hO.out.lt;have hbb2:=Qac hbb hB.out.size;obtain⟨a,d,f1,f2,f3,f4,f5,f6⟩:=O6 (y:=xs[k+1]?.getD 0) (ka HO.out k) hs64;have HI2:=hid (hI.out.step hs64 hlt f4 f5 f6);have HO2:=hid (hO.out.put k (.int .u64 (a:Int)));have Hk:=hid hk;by_cases hlast:k+1<xs.length
   ·have hin2:((k:Int)+1<(xs.length:Int)):=by omega
    have hckn:=(hB.out.cell (p:=⟨b0,off+(k+1),none⟩) hbb).trans ((hcell (k+1) (by rw[jB];omega)).trans (jP xs (k+1) (by omega)));have HO3:=hid (HO2.out.put k (.int .u64 ((a+d:Nat):Int)));rw[List.set_set,kN] at HO3;have HB3:=hid ((hB.out.setCell (p:=⟨w.heap.size,k,none⟩) (by simp) (.int .u64 (a:Int))).setCell (p:=⟨w.heap.size,k,none⟩) (by simp) (.int .u64 ((a+d:Nat):Int)));clear hcell f4 f5 f6 hk hLl HO2;generalize xs[k]?.getD 0=x at *;generalize xs[k+1]?.getD 0=y at *;generalize L[k]?.getD 0=z at *
    go_upto_region 7 with fail
    go_region
    go_wp2
    go_roundg gh
    case rel=>exact⟨k+1,_,by go_num,by have:=Hk.out;omega,HI2,hid HO3.out,hid (HB3.out.drew)⟩
    case measure=>omega
   ·have hin2:¬((k:Int)+1<(xs.length:Int)):=by omega
    have hd0:d=0:=by rw[f5,Qah (by omega)];simp
    have HB3:=hid (hB.out.setCell (p:=⟨w.heap.size,k,none⟩) (by simp) (.int .u64 (a:Int)));rw[kN] at HO2;subst hd0;clear hcell f4 f5 f6 hk hLl f2 f3;generalize xs[k]?.getD 0=x at *;generalize L[k]?.getD 0=z at *
    go_wp2
    go_roundg gh
    case rel=>exact⟨k+1,_,by go_num,by have:=Hk.out;omega,HI2,hid HO2.out,hid HB3.out⟩
    case measure=>omega
def kP (L:List Nat) (o n:Nat):Nat:=jd ((L.drop o).take n)
theorem E5 (L:List Nat) (o:Nat):kP L o 0=0:=by simp[kP,jd]
theorem YH (L:List Nat) (o k:Nat):kP L o (k+1)=kP L o k+WB^k*L[o+k]?.getD 0:=by
 unfold kP;rw[qt,List.getElem?_drop]
theorem YG {L:List Nat} {o k x:Nat} (h:o+k<L.length):kP (L.set (o+k) x) o (k+1)=kP L o k+WB^k*x:=by
 unfold kP;rw[←List.set_drop,Kq _ _ _ (by rw[Qa3];omega)]
theorem Eo (x b:Nat) (hx:x<WB) (hb:b<WB):
  ∃d br:Nat,((x:Int)-b)%18446744073709551616=d∧zB x (b:Int)=br∧d<WB∧br≤1∧x+WB*br=d+0+b:=by
 unfold WB at *;refine⟨(((x:Int)-b)%18446744073709551616).toNat,if (x:Int)<b then 1 else 0,by omega,?_,by omega,?_,?_⟩
 ·unfold zB;split <;> rfl
 ·split <;> omega
 ·split <;> omega
theorem XQ {L M:List Nat} {j:Nat} (h:L.drop j=M.drop j):L[j]?.getD 0=M[j]?.getD 0:=by
 have e:=congrArg (fun l=>l[0]?.getD 0) h;simpa [List.getElem?_drop] using e
theorem Dc {L M:List Nat} {j:Nat} (h:L.drop j=M.drop j) (x:Nat):(L.set j x).drop (j+1)=M.drop (j+1):=by
 rw[Qa9 (by omega),←QbM,←QbM,h]
theorem Pn {L:List Nat} {o j x:Nat} (h:o≤j):(L.set j x).take o=L.take o:=Qca h
structure y6 (L0 L:List Nat) (o k:Nat):Prop where
 len:L.length=L0.length
 ok:jJ L
 low:L.take o=L0.take o
 high:L.drop (o+k)=L0.drop (o+k)
theorem y6.set {L0 L:List Nat} {o k d:Nat} (h:y6 L0 L o k) (hd:d<WB):y6 L0 (L.set (o+k) d) o (k+1):=by
 refine⟨by simp[h.len],zm h.ok _ _ hd,by rw[Pn (Qcn _ _)];exact h.low,?_⟩;rw[←Qb9];exact Dc h.high d
structure zu (vs L0 L:List Nat) (o f c k:Nat):Prop where
 same:y6 L0 L o k
 clt:c<WB
 val:kP L o k+jd (vs.take k)*f=kP L0 o k+WB^k*c
theorem zu.start {vs L0:List Nat} {o f:Nat} (ok:jJ L0):zu vs L0 L0 o f 0 0:=by
 refine⟨⟨rfl,ok,rfl,rfl⟩,by decide,?_⟩;simp[E5,jd]
theorem zu.step {vs L0 L:List Nat} {o f c k d lo hi low over br:Nat} (h:zu vs L0 L o f c k) (hk:o+k<L0.length) (hx:vs[k]?.getD 0<WB) (hf:f<WB) (hm:vs[k]?.getD 0*f=hi*WB+lo) (ha:lo+c=low+WB*over)
  (hs:L0[o+k]?.getD 0+WB*br=d+0+low) (hd:d<WB) (ht:L0[o+k]?.getD 0<WB):zu vs L0 (L.set (o+k) d) o f (hi+over+br) (k+1)∧hi+over<WB:=by
 have e:d+vs[k]?.getD 0*f+c=L0[o+k]?.getD 0+WB*(hi+over+br):=by
  rw[hm,Qau,Qau,Qam hi];omega
 have hc:=h.clt;have hmax:vs[k]?.getD 0*f≤(WB-1)*(WB-1):=Qbh (by omega) (by omega);have hl:=h.same.len;have hval:=h.val;have hsame:=h.same;generalize hve:vs[k]?.getD 0=x at *;generalize hLe:L0[o+k]?.getD 0=t at *;generalize hxe:x*f=y at *;refine⟨⟨hsame.set hd,?_,?_⟩,?_⟩
 ·unfold WB at *;omega
 ·rw[YG (by omega),qt,YH,hve,hLe,Qaz,Qal,hxe,QaD]
  have e2:WB^k*(d+y+c)=WB^k*(t+WB*(hi+over+br)):=by rw[e]
  rw[Qau,Qau,Qau,←Qal (WB^k) WB] at e2;generalize WB^k*WB*(hi+over+br)=q at *;generalize WB^k*y=p1 at *;generalize WB^k*d=p2 at *;generalize WB^k*c=p3 at *;generalize WB^k*t=p4 at *;omega
 ·unfold WB at *;omega
theorem zu.last {vs L0 L:List Nat} {o f c d br:Nat} (h:zu vs L0 L o f c vs.length) (hk:o+vs.length<L0.length) (hs:L0[o+vs.length]?.getD 0+WB*br=d+0+c) (hd:d<WB):
  y6 L0 (L.set (o+vs.length) d) o (vs.length+1)∧kP (L.set (o+vs.length) d) o (vs.length+1)+jd vs*f=kP L0 o (vs.length+1)+WB^(vs.length+1)*br:=by
 have hl:=h.same.len;have hval:=h.val;rw[Qad (Nat.le_refl _)] at hval;refine⟨h.same.set hd,?_⟩;rw[YG (by omega),YH,QaD]
 have e2:WB^vs.length*(L0[o+vs.length]?.getD 0+WB*br)=WB^vs.length*(d+0+c):=by rw[hs]
 rw[Qau,Qbf,Qau,←Qal (WB^vs.length) WB] at e2;generalize WB^vs.length*WB*br=q at *;generalize WB^vs.length*d=p2 at *;generalize WB^vs.length*c=p3 at *;generalize WB^vs.length*L0[o+vs.length]?.getD 0=p4 at *;omega
theorem Pd (B:Option Addr) (g o c d f:Nat) (L vs:List Nat) (w:World) (hL:ja w g 89 (jz L)) (hv:Sl w 1 (.slice B vs.length d) (jz vs)) (hB:∀b off,B=some ⟨b,off,none⟩→b≠g) (oL:jJ L) (ov:jJ vs) (hf:f<WB)
  (ho:o+vs.length<L.length) (hlen:L.length≤8000000000001):
  Calls Tryz.prog 204 #[.slice (some ⟨g,o,none⟩) (vs.length+1) c,.slice B vs.length d,.int .u64 f] w fun e w'=>∃(br:Nat) (L':List Nat),e = .returned (.int .u64 br)∧ja w' g 89 (jz L')∧jk g w w'∧y6 L L' o (vs.length+1) ∧
   br≤1∧kP L' o (vs.length+1)+jd vs*f=kP L o (vs.length+1)+WB^(vs.length+1)*br:=by
 have HI0:Hid (zu vs L L o f 0 0):=hid (zu.start oL);have HL:=hid hL;have HV:=hid hv;have HB:=hid hB;have OL:=hid oL;have OV:=hid ov;clear hL hv hB oL ov;go_enter Tryz.func204,Tryz.ntmps204
 go_wp2_with fail
 go_loopg [7,17] vs.length (fun gh cr i wr=>∃(k cc:Nat) (M:List Nat),i = .int .i64 k∧cr = .int .u64 cc∧k+gh=vs.length∧Hid (zu vs L M o f cc k)∧Hid (ja wr g 89 (jz M))∧Hid (jk g w wr))
 case atStart=>exact⟨0,0,L,rfl,rfl,by omega,HI0,HL,hid (jk.refl _ _)⟩
 case round=>
  clear HI0 HL;obtain⟨k,cc,M,rfl,rfl,hk,hI,hO,hW⟩:=hrel;have hMl:=hI.out.same.len;have hgl:=hO.out.lt
  cases gk with
  | zero=>
   have hin:¬((k:Int)<(vs.length:Int)):=by omega
   have hkn:k=vs.length:=by omega
   subst hkn;have hck:=(hO.out.cell (o+vs.length)).trans (jP M (o+vs.length) (by omega));have hfr:=hO.out.free (o+vs.length);rw[XQ hI.out.same.high] at hck;have htw:=ka OL.out (o+vs.length);have hcl:=hI.out.clt;obtain⟨dd,br,e1,e2,a1,a2,a3⟩:=Eo _ cc htw hcl;have HF:=hid (hI.out.last ho a3 a1)
   have Hsub:=fun w=>Ej (L[o+vs.length]?.getD 0:Nat) (cc:Int) (by omega) (by unfold WB at htw;omega) (by omega) (by unfold WB at hcl;omega) w
   rw[e1,e2] at Hsub;have HO2:=hid (hO.out.put (o+vs.length) (.int .u64 (dd:Int)));rw[kN] at HO2;have HW2:=hid (hW.out.setCell ⟨g,o+vs.length,none⟩ rfl (.int .u64 (dd:Int)));have H2:=hid a2;clear a1 a2 a3 hk htw hcl e1 e2 hO hW hI;generalize L[o+vs.length]?.getD 0=tt at *
   go_wp2
   go_ret;exact⟨br,rfl,_,HO2.out,HW2.out,HF.out.1,H2.out,HF.out.2⟩
  | succ gh=>
   have hlt:k<vs.length:=by omega
   have hin:((k:Int)<(vs.length:Int)):=by omega
   obtain⟨b0,off,rfl,hbb,hcell⟩:=HV.out.at_ (k:=k) (by rw[jB];omega);have hbg:=HB.out b0 off rfl;have hcv:=(World.cell?_of_block (a:=⟨b0,off+k,none⟩) (hW.out.block b0 hbb hbg)).trans ((hcell k (by rw[jB];omega)).trans (jP vs k hlt));have hbl:=Qac hbb hW.out.size;have hck:=(hO.out.cell (o+k)).trans (jP M (o+k) (by omega));have hfr:=hO.out.free (o+k);rw[XQ hI.out.same.high] at hck;have htw:=ka OL.out (o+k);have hvw:=ka OV.out k;have hcl:=hI.out.clt;have hdm:=QaP (vs[k]?.getD 0*f) WB;have hlo:=QaI (vs[k]?.getD 0*f) (show 0<WB by decide);rw[Qam WB] at hdm;have MU:=hid (fun W=>QB (vs[k]?.getD 0) f (vs[k]?.getD 0*f/WB) (vs[k]?.getD 0*f%WB) W hvw hf hdm.symm hlo);have HST:=hid (fun (lo hi low over br d:Nat) h1 h2 h3 h4=>hI.out.step (lo:=lo) (hi:=hi) (low:=low) (over:=over) (br:=br) (d:=d) (by omega) hvw hf h1 h2 h3 h4 htw);generalize vs[k]?.getD 0*f/WB=hi at *;generalize vs[k]?.getD 0*f%WB=lo at *;obtain⟨low,over,e1,e2,a1,a2,a3⟩:=Kx lo cc hlo hcl;obtain⟨dd,br,e3,e4,b1,b2,b3⟩:=Eo _ low htw a1
   have Hadd:=fun w=>Qi (lo:Int) (cc:Int) (by omega) (by unfold WB at hlo;omega) (by omega) (by unfold WB at hcl;omega) w
   rw[e1,e2] at Hadd
   have Hsub:=fun w=>Ej (L[o+k]?.getD 0:Nat) (low:Int) (by omega) (by unfold WB at htw;omega) (by omega) (by unfold WB at a1;omega) w
   rw[e3,e4] at Hsub;obtain⟨hI2,hho⟩:=HST.out lo hi low over br dd hdm.symm a3 b3 b1;have HI2:=hid hI2
   obtain⟨hh,hhe⟩:∃hh,hh=hi+over:=⟨_,rfl⟩
   obtain⟨c2,hc2⟩:∃c2,c2=hi+over+br:=⟨_,rfl⟩
   rw[←hc2] at HI2
   have wa:IntKind.u64.wrap ((hi:Int)+(over:Int))=(hh:Int):=by rw[←QaG,←hhe];exact wrap_u64 _ (by omega)
   have wb:IntKind.u64.wrap ((hh:Int)+(br:Int))=(c2:Int):=by rw[←QaG,hhe,←hc2];exact wrap_u64 _ HI2.out.clt
   clear hhe hc2;have HO2:=hid (hO.out.put (o+k) (.int .u64 (dd:Int)));rw[kN] at HO2;have HW2:=hid (hW.out.setCell ⟨g,o+k,none⟩ rfl (.int .u64 (dd:Int)));have Hk:=hid hk;clear hcell hdm hlo HST e1 e2 a1 a2 a3 e3 e4 b1 b2 b3 hI2 hho htw hvw hcl hk hO hW hI;generalize vs[k]?.getD 0=x at *;generalize L[o+k]?.getD 0=tt at *
   go_wp2_with (first | (go_at_call 102;refine(MU.out _).mono ?_;rintro e w' ⟨rfl,rfl⟩))
   go_roundg gh
   case rel=>exact⟨k+1,c2,_,by go_num,by go_num,by have:=Hk.out;omega,HI2,HO2,HW2⟩
   case measure=>omega
structure zn (vs L0 L:List Nat) (o c k:Nat):Prop where
 same:y6 L0 L o k
 cle:c≤1
 val:kP L o k+WB^k*c=kP L0 o k+jd (vs.take k)
theorem zn.start {vs L0:List Nat} {o:Nat} (ok:jJ L0):zn vs L0 L0 o 0 0:=by
 refine⟨⟨rfl,ok,rfl,rfl⟩,by decide,?_⟩;simp[E5,jd]
theorem zn.step {vs L0 L:List Nat} {o c k d cr:Nat} (h:zn vs L0 L o c k) (hk:o+k<L0.length) (e:L0[o+k]?.getD 0+vs[k]?.getD 0+c=d+WB*cr) (hd:d<WB) (hc:cr≤1):zn vs L0 (L.set (o+k) d) o cr (k+1):=by
 have hl:=h.same.len;have hval:=h.val;refine⟨h.same.set hd,hc,?_⟩;rw[YG (by omega),qt,YH,QaD]
 have e2:WB^k*(L0[o+k]?.getD 0+vs[k]?.getD 0+c)=WB^k*(d+WB*cr):=by rw[e]
 rw[Qau,Qau,Qau,←Qal (WB^k) WB] at e2;generalize WB^k*WB*cr=q at *;generalize WB^k*d=p1 at *;generalize WB^k*c=p2 at *;generalize WB^k*L0[o+k]?.getD 0=p3 at *;generalize WB^k*vs[k]?.getD 0=p4 at *;omega
theorem zn.last {vs L0 L:List Nat} {o c d cr:Nat} (h:zn vs L0 L o c vs.length) (hk:o+vs.length<L0.length) (e:L0[o+vs.length]?.getD 0+c=d+WB*cr) (hd:d<WB):
  y6 L0 (L.set (o+vs.length) d) o (vs.length+1)∧kP (L.set (o+vs.length) d) o (vs.length+1)+WB^(vs.length+1)*cr=kP L0 o (vs.length+1)+jd vs:=by
 have hl:=h.same.len;have hval:=h.val;rw[Qad (Nat.le_refl _)] at hval;refine⟨h.same.set hd,?_⟩;rw[YG (by omega),YH,QaD]
 have e2:WB^vs.length*(L0[o+vs.length]?.getD 0+c)=WB^vs.length*(d+WB*cr):=by rw[e]
 rw[Qau,Qau,←Qal (WB^vs.length) WB] at e2;generalize WB^vs.length*WB*cr=q at *;generalize WB^vs.length*d=p2 at *;generalize WB^vs.length*c=p3 at *;generalize WB^vs.length*L0[o+vs.length]?.getD 0=p4 at *;omega
theorem SD (B:Option Addr) (g o c d:Nat) (L vs:List Nat) (w:World) (hL:ja w g 89 (jz L)) (hv:Sl w 1 (.slice B vs.length d) (jz vs)) (hB:∀b off,B=some ⟨b,off,none⟩→b≠g) (oL:jJ L) (ov:jJ vs)
  (ho:o+vs.length<L.length) (hlen:L.length≤8000000000001):
  Calls Tryz.prog 205 #[.slice (some ⟨g,o,none⟩) (vs.length+1) c,.slice B vs.length d] w fun e w'=>e = .returned (.tuple #[]) ∧ ∃(cr:Nat) (L':List Nat),ja w' g 89 (jz L')∧jk g w w'∧y6 L L' o (vs.length+1) ∧
   kP L' o (vs.length+1)+WB^(vs.length+1)*cr=kP L o (vs.length+1)+jd vs:=by
 have HI0:Hid (zn vs L L o 0 0):=hid (zn.start oL);have HL:=hid hL;have HV:=hid hv;have HB:=hid hB;have OL:=hid oL;have OV:=hid ov;clear hL hv hB oL ov;go_enter Tryz.func205,Tryz.ntmps205
 go_wp2_with fail
 go_loopg [4,9] vs.length (fun gh cr i wr=>∃(k cc:Nat) (M:List Nat),i = .int .i64 k∧cr = .int .u64 cc∧k+gh=vs.length∧Hid (zn vs L M o cc k)∧Hid (ja wr g 89 (jz M))∧Hid (jk g w wr))
 case atStart=>exact⟨0,0,L,rfl,rfl,by omega,HI0,HL,hid (jk.refl _ _)⟩
 case round=>
  clear HI0 HL;obtain⟨k,cc,M,rfl,rfl,hk,hI,hO,hW⟩:=hrel;have hMl:=hI.out.same.len;have hgl:=hO.out.lt
  cases gk with
  | zero=>
   have hin:¬((k:Int)<(vs.length:Int)):=by omega
   have hkn:k=vs.length:=by omega
   subst hkn;have hck:=(hO.out.cell (o+vs.length)).trans (jP M (o+vs.length) (by omega));have hfr:=hO.out.free (o+vs.length);rw[XQ hI.out.same.high] at hck;have htw:=ka OL.out (o+vs.length);have hcl:=hI.out.cle;obtain⟨dd,cr,e1,e2,a1,a2,a3⟩:=Kx _ cc htw (show cc<WB by unfold WB;omega);have HF:=hid (hI.out.last ho a3 a1);have wa:IntKind.u64.wrap ((L[o+vs.length]?.getD 0:Nat)+(cc:Int))=(dd:Int):=e1;have HO2:=hid (hO.out.put (o+vs.length) (.int .u64 (dd:Int)));rw[kN] at HO2;have HW2:=hid (hW.out.setCell ⟨g,o+vs.length,none⟩ rfl (.int .u64 (dd:Int)));clear a1 a2 a3 hk htw hcl e1 e2 hO hW hI;generalize L[o+vs.length]?.getD 0=tt at *
   go_wp2
   go_end0
   exact⟨rfl,cr,_,HO2.out,HW2.out,HF.out.1,HF.out.2⟩
  | succ gh=>
   have hlt:k<vs.length:=by omega
   have hin:((k:Int)<(vs.length:Int)):=by omega
   obtain⟨b0,off,rfl,hbb,hcell⟩:=HV.out.at_ (k:=k) (by rw[jB];omega);have hbg:=HB.out b0 off rfl;have hcv:=(World.cell?_of_block (a:=⟨b0,off+k,none⟩) (hW.out.block b0 hbb hbg)).trans ((hcell k (by rw[jB];omega)).trans (jP vs k hlt));have hbl:=Qac hbb hW.out.size;have hck:=(hO.out.cell (o+k)).trans (jP M (o+k) (by omega));have hfr:=hO.out.free (o+k);rw[XQ hI.out.same.high] at hck;have htw:=ka OL.out (o+k);have hvw:=ka OV.out k;have hcl:=hI.out.cle;obtain⟨dd,cr,e1,e2,a1,a2,a3⟩:=YS (L[o+k]?.getD 0) (vs[k]?.getD 0) cc htw hvw hcl
   have Hadd:=fun w=>Qh (L[o+k]?.getD 0:Nat) (vs[k]?.getD 0:Nat) (cc:Int) (by omega) (by unfold WB at htw;omega) (by omega) (by unfold WB at hvw;omega) (by omega) (by omega) w
   rw[e1,e2] at Hadd;have HI2:=hid (hI.out.step (by omega) a3 a1 a2);have HO2:=hid (hO.out.put (o+k) (.int .u64 (dd:Int)));rw[kN] at HO2;have HW2:=hid (hW.out.setCell ⟨g,o+k,none⟩ rfl (.int .u64 (dd:Int)));have Hk:=hid hk;clear hcell e1 e2 a1 a2 a3 htw hvw hcl hk hO hW hI;generalize vs[k]?.getD 0=x at *;generalize L[o+k]?.getD 0=tt at *
   go_wp2
   go_roundg gh
   case rel=>exact⟨k+1,cr,_,by go_num,by go_num,by have:=Hk.out;omega,HI2,HO2,HW2⟩
   case measure=>omega
theorem Bi {us vs:List Nat} {m:Nat} (hu:jJ us) (hv:jJ vs) (hul:us.length=m+3) (hvl:vs.length=m+2) (hlt:jd us<WB*jd vs) (hn:WB≤2*vs[m+1]?.getD 0):
  Kn WB (WB^m) (us[m+2]?.getD 0*WB+us[m+1]?.getD 0) (us[m]?.getD 0) (vs[m+1]?.getD 0) (vs[m]?.getD 0) (jd us) (jd vs):=by
 have e1:=qt us (m+2);rw[Qad (by omega),qt,qt] at e1;have e2:=qt vs (m+1);rw[Qad (by omega),qt] at e2;have b1:=xj (yR hu m);have b2:=xj (yR hv m);rw[Qak,QaJ (by omega)] at b1 b2;have w1:=ka hu m;have w2:=ka hv m;generalize jd (us.take m)=X at *;generalize jd (vs.take m)=Y at *;generalize us[m+2]?.getD 0=a at *;generalize us[m+1]?.getD 0=b at *;generalize us[m]?.getD 0=c at *;generalize vs[m+1]?.getD 0=d at *;generalize vs[m]?.getD 0=f at *;have p1:WB^(m+1)=WB^m*WB:=QaD ..
 have p2:WB^(m+2)=WB^m*WB*WB:=by rw[QaD,QaD]
 rw[p1,p2] at e1;rw[p1] at e2;generalize WB^m=P at *
 have f1:jd us=X+P*((a*WB+b)*WB+c):=by
  rw[e1,Qau,Qaz,Qau]
  have:P*WB*WB*a=P*(a*WB*WB):=by ac_rfl
  have:P*WB*b=P*(b*WB):=by ac_rfl
  omega
 have f2:jd vs=Y+P*(d*WB+f):=by
  rw[e2,Qau]
  have:P*WB*d=P*(d*WB):=by ac_rfl
  omega
 clear e1 e2
 obtain⟨T,hT⟩:∃T,T=(a*WB+b)*WB+c:=⟨_,rfl⟩
 obtain⟨S,hS⟩:∃S,S=d*WB+f:=⟨_,rfl⟩
 refine⟨?_,?_,?_,?_,w2,w1,hlt,hn⟩
 ·rw[←hT] at f1 ⊢;rw[f1,Qam T];exact Nat.le_add_left _ _
 ·rw[←hT] at f1 ⊢;rw[f1,Qaz T 1,Qbd,Qam T,Qcr X];exact Nat.add_lt_add_left b1 _
 ·rw[←hS] at f2 ⊢;rw[f2,Qam S];exact Nat.le_add_left _ _
 ·rw[←hS] at f2 ⊢;rw[f2,Qaz S 1,Qbd,Qam S,Qcr Y];exact Nat.add_lt_add_left b2 _
theorem Kn.max {B P a b u2 v1 v2 U V:Nat} (hB:0<B) (h:Kn B P (a*B+b) u2 v1 v2 U V) (ha:v1≤a):yU B U V (B-1):=by
 have hp:=h.pos;have h1:=h.lt
 have hU:v1*B*B*P≤U:=by
  have e:v1*B*B≤(a*B+b)*B+u2:=by
   have e0:v1*B≤a*B:=Qas _ ha;have e1:=Qas B e0;rw[Qaz];omega
  exact Qap (Qas P e) h.lo
 have hV:B*V<v1*B*B*P+B*B*P:=by
  have e1:v1*B+v2+1≤v1*B+B:=by have:=h.v2lt;omega
  have e2:=Qas P e1;have e3:B*V<B*((v1*B+B)*P):=Nat.mul_lt_mul_of_pos_left (Qac h.vhi e2) hB
  have e4:B*((v1*B+B)*P)=v1*B*B*P+B*B*P:=by rw[Qaz,Qau];ac_rfl
  omega
 have hV2:B*B*P≤2*V:=by
  have e1:v1*B*P≤V:=Qap (Qas P (Qcn _ _)) h.vlo;have e2:B*(B*P)≤2*v1*(B*P):=Qas _ h.norm
  have e3:2*v1*(B*P)=2*(v1*B*P):=by ac_rfl
  have e4:B*B*P=B*(B*P):=Qal ..;omega
 obtain⟨k,rfl⟩:∃k,B=k+1:=⟨B-1,by omega⟩
 refine⟨by omega,?_,by rw[Qb1];exact h1⟩;rw[Qb1]
 have e5:(k+1)*V=k*V+V:=by rw[Qaz,Qbd]
 omega
theorem Px {B over low r u2:Nat} (hl:low<B) (hu:u2<B):over*B+low≤r*B+u2↔(over<r∨(over=r∧low≤u2)):=by
 constructor
 ·intro h
  rcases Qck over r with h1 | h1 | h1
  ·exact .inl h1
  ·subst h1;exact .inr ⟨rfl,by omega⟩
  ·have:(r+1)*B≤over*B:=Qas _ h1
   rw[Qaz] at this;omega
 ·rintro (h | ⟨rfl,h⟩)
  ·have:(over+1)*B≤r*B:=Qas _ h
   rw[Qaz] at this;omega
  ·omega
theorem Zf (hi lo y q r:Nat) (w:World) (h1:hi<y) (h2:lo<WB) (h3:y<WB) (h4:hi*WB+lo=q*y+r) (h5:r<y):
  Calls Tryz.prog 144 #[.int .u64 hi,.int .u64 lo,.int .u64 y] w fun e w'=>e = .returned (.tuple #[.int .u64 q,.int .u64 r]) ∧ ∃n,w'=w.drewN n:=by
 rcases QaA hi with rfl | h0
 ·exact VR lo y q r w h2 (by omega) h5
 ·exact NI hi lo y q r w h0 h1 h2 h3 h4 h5
theorem Ah (A B:Option Addr) (c d m:Nat) (us vs:List Nat) (w:World) (hs:Sl w 1 (.slice A (m+3) c) (jz us)) (hv:Sl w 1 (.slice B (m+2) d) (jz vs)) (ou:jJ us) (ov:jJ vs) (hul:us.length=m+3) (hvl:vs.length=m+2)
  (hlt:jd us<WB*jd vs) (hn:WB≤2*vs[m+1]?.getD 0) (hm:m≤8000000000000):
  Calls Tryz.prog 203 #[.slice A (m+3) c,.slice B (m+2) d] w fun e w'=>∃t:Nat,e = .returned (.int .u64 t)∧yU WB (jd us) (jd vs) t∧Below w.heap.size w w':=by
 obtain⟨b0,off,rfl,hbb,hcell⟩:=hs.at_ (k:=0) (by rw[jB];omega);obtain⟨b1,KP,rfl,hbb1,hcell1⟩:=hv.at_ (k:=0) (by rw[jB];omega);have q1:=(hcell m (by rw[jB];omega)).trans (jP us m (by omega));have q2:=(hcell (m+1) (by rw[jB];omega)).trans (jP us (m+1) (by omega));have q3:=(hcell (m+2) (by rw[jB];omega)).trans (jP us (m+2) (by omega));have p1:=(hcell1 m (by rw[jB];omega)).trans (jP vs m (by omega));have p2:=(hcell1 (m+1) (by rw[jB];omega)).trans (jP vs (m+1) (by omega));have HK:=hid (Bi ou ov hul hvl hlt hn);have w1:=ka ou m;have w2:=ka ou (m+1);have w3:=ka ou (m+2);have w4:=ka ov m;have w5:=ka ov (m+1);clear hs hv hcell hcell1 ou ov hul hvl hlt;generalize jd us=U at *;generalize jd vs=V at *;generalize us[m]?.getD 0=x0 at *;generalize us[m+1]?.getD 0=x1 at *;generalize us[m+2]?.getD 0=x2 at *;generalize vs[m]?.getD 0=y0 at *;generalize vs[m+1]?.getD 0=y1 at *;go_enter Tryz.func203,Tryz.ntmps203
 go_wp2
 go_quiet (fail)
 have hB:=below_drewN (Below.refl w.heap.size w) nq;have HB:=hid hB;by_cases hge:y1≤x2
 ·have hgeI:(y1:Int)≤(x2:Int):=by omega
  have HF:=hid (HK.out.max (by decide) hge)
  go_wp2
  go_ret;exact⟨18446744073709551615,rfl,HF.out,HB.out⟩
 ·have hgeI:¬(y1:Int)≤(x2:Int):=by omega
  have HI0:=hid HK.out.start
  have hy0:0<y1:=by unfold WB at hn;omega
  have hd:=QaP (x2*WB+x1) y1;have hmd:=QaI (x2*WB+x1) hy0
  have hq:(x2*WB+x1)/y1<WB:=QbT (by
   have:(x2+1)*WB≤y1*WB:=Qas _ (by omega)
   rw[Qaz] at this;omega)
  have HQ:=hid hq;have DV:=hid (fun W=>Zf x2 x1 y1 ((x2*WB+x1)/y1) ((x2*WB+x1)%y1) W (by omega) w2 w5 (by rw[Qam ((x2*WB+x1)/y1)];exact hd.symm) hmd);have HR:Hid ((x2*WB+x1)%y1<WB):=hid (Nat.lt_trans hmd w5);clear hd hmd hq;generalize (x2*WB+x1)/y1=t0 at *;generalize (x2*WB+x1)%y1=r0 at *;have H1:=hid (And.intro p1 p2);have W4:=hid w4;have W1:=hid w1;have W5:=hid w5;clear hn w2 w3 hy0 hB
  go_wp2_with fail
  refine(DV.out _).mono ?_;rintro e w2 ⟨rfl,n2,rfl⟩;have HB2:Hid (Below w.heap.size w (w.drewN (nq+n2))):=hid (below_drewN (Below.refl _ _) _);clear DV q1 q2 q3 p1 p2 w1 w4 w5
  go_wp2_with fail
  clear hgeI hge
  go_loopg [9,10] (t0+1) (fun gh g9 g10 wx=>∃t r:Nat,g9 = .int .u64 t∧g10 = .int .u64 r∧t+1≤gh∧Hid (yh (x2*WB+x1) y1 U V t r)∧Hid (t<WB∧r<WB)∧Hid (Below w.heap.size w wx))
  case atStart=>exact⟨t0,r0,rfl,rfl,Nat.le_refl _,HI0,hid ⟨HQ.out,HR.out⟩,HB2⟩
  case round=>
   clear HI0 HQ HR HB2 HB;obtain⟨t,r,rfl,rfl,ht,hI,hT,hB⟩:=hrel;have p1:=(hB.out.cell (p:=⟨b1,KP+m,none⟩) hbb1).trans H1.out.1;have p2:=(hB.out.cell (p:=⟨b1,KP+(m+1),none⟩) hbb1).trans H1.out.2;have hbl:=Qac hbb1 hB.out.size;have hdm:=QaP (t*y0) WB;have hlo:=QaI (t*y0) (show 0<WB by decide);rw[Qam WB] at hdm;have MU:=hid (fun W=>QB t y0 (t*y0/WB) (t*y0%WB) W hT.out.1 W4.out hdm.symm hlo);have H2:=hid (Px (over:=t*y0/WB) (r:=r) hlo W1.out);have HD:=hid hdm;have HT1:=hid ht;clear hdm hlo ht;generalize t*y0/WB=over at *;generalize t*y0%WB=low at *;by_cases hok:t*y0≤r*WB+x0
   ·have HF:=hid (HK.out.exit hI.out hT.out.1 hok)
    have hc:=H2.out.1 (by rw[HD.out];exact hok);clear hok
    rcases hc with hc | ⟨hc,hc2⟩
    ·have hcI:(over:Int)<(r:Int):=by omega
     clear hc
     go_wp2_with fail
     refine(MU.out _).mono ?_;rintro e w3 ⟨rfl,rfl⟩
     go_wp2
     go_ret;exact⟨t,rfl,HF.out,hB.out⟩
    ·subst hc
     have hcI:¬(over:Int)<(over:Int):=by omega
     have hcE:((over:Int)==(over:Int))=true:=by simp
     have hcL:(low:Int)≤(x0:Int):=by omega
     clear hc2
     go_wp2_with fail
     refine(MU.out _).mono ?_;rintro e w3 ⟨rfl,rfl⟩
     go_wp2
     go_ret;exact⟨t,rfl,HF.out,hB.out⟩
   ·have hnc:¬(over<r∨(over=r∧low≤x0)):=fun h=>hok (by rw[←HD.out];exact H2.out.2 h)
    obtain⟨t',het,hI2⟩:=HK.out.down hI.out (.inr (by omega));have HI2:=hid hI2
    have wa:IntKind.u64.wrap ((t:Int)-1)=(t':Int):=by
     rw[show (t:Int)-1=(t':Int) by omega];exact wrap_u64 _ (by have:=hT.out.1;omega)
    have HT':Hid (t'<WB):=hid (by have:=hT.out.1;omega);have HET:=hid het;clear hI2 hok het;by_cases hov:r+y1<WB
    ·have wb:IntKind.u64.wrap ((r:Int)+(y1:Int))=((r+y1:Nat):Int):=by rw[←QaG];exact wrap_u64 _ hov
     have hlt2:¬((r+y1:Nat):Int)<(y1:Int):=by omega
     have HOV:=hid hov;clear hov;generalize r+y1=r2 at *
     cases gk with
     | zero=>exact absurd HT1.out (by omega)
     | succ gh=>
      have Hm:Hid (t'+1≤gh):=hid (by have:=HT1.out;have:=HET.out;omega);rcases Qck over r with h1 | h1 | h1
      ·exact absurd (.inl h1) hnc
      ·subst h1
       have hcI:¬(over:Int)<(over:Int):=by omega
       have hcE:((over:Int)==(over:Int))=true:=by simp
       have hcL:¬(low:Int)≤(x0:Int):=fun h=>hnc (.inr ⟨rfl,by omega⟩)
       clear hnc
       go_wp2_with fail
       refine(MU.out _).mono ?_;rintro e w3 ⟨rfl,rfl⟩
       go_wp2
       go_roundg gh
       case rel=>exact⟨t',r2,by go_num,by go_num,Hm.out,HI2,hid ⟨HT'.out,HOV.out⟩,hB⟩
       case measure=>omega
      ·have hcI:¬(over:Int)<(r:Int):=by omega
       have hcE:((over:Int)==(r:Int))=false:=by simp;omega
       clear hnc h1
       go_wp2_with fail
       refine(MU.out _).mono ?_;rintro e w3 ⟨rfl,rfl⟩
       go_wp2
       go_roundg gh
       case rel=>exact⟨t',r2,by go_num,by go_num,Hm.out,HI2,hid ⟨HT'.out,HOV.out⟩,hB⟩
       case measure=>omega
    ·have HF:=hid (HK.out.exit_far (HET.out ▸ hI.out) HI2.out (by omega))
     obtain⟨r2,hr2⟩:∃r2,r+y1=WB+r2:=⟨r+y1-WB,by omega⟩
     have hrl:=hT.out.2;have hyl:=W5.out
     have wb:IntKind.u64.wrap ((r:Int)+(y1:Int))=(r2:Int):=by rw[jM];unfold WB at *;omega
     have hlt2:(r2:Int)<(y1:Int):=by unfold WB at *;omega
     clear hov hr2 hrl hyl;rcases Qck over r with h1 | h1 | h1
     ·exact absurd (.inl h1) hnc
     ·subst h1
      have hcI:¬(over:Int)<(over:Int):=by omega
      have hcE:((over:Int)==(over:Int))=true:=by simp
      have hcL:¬(low:Int)≤(x0:Int):=fun h=>hnc (.inr ⟨rfl,by omega⟩)
      clear hnc
      go_wp2_with fail
      refine(MU.out _).mono ?_;rintro e w3 ⟨rfl,rfl⟩
      go_wp2
      go_ret;exact⟨t',rfl,HF.out,hB.out⟩
     ·have hcI:¬(over:Int)<(r:Int):=by omega
      have hcE:((over:Int)==(r:Int))=false:=by simp;omega
      clear hnc h1
      go_wp2_with fail
      refine(MU.out _).mono ?_;rintro e w3 ⟨rfl,rfl⟩
      go_wp2
      go_ret;exact⟨t',rfl,HF.out,hB.out⟩
theorem JP (ws:List Nat) (k:Nat) (hk:k≤ws.length):jd ws=jd (ws.take k)+WB^k*jd (ws.drop k):=by
 conv=>lhs;rw[←Qb2 k ws]
 rw[YK,Qak,QaJ hk]
theorem Rd (ws:List Nat) (k:Nat) (hk:k<ws.length):jd (ws.drop k)=ws[k]?.getD 0+WB*jd (ws.drop (k+1)):=by
 rw[QaF hk,Qaa hk];rfl
theorem EY {ws:List Nat} (h:jJ ws) (k:Nat):jJ (ws.drop k):=fun x hx=>h x (Qb5 hx)
structure Dw (us vs L Q:List Nat) (g:Nat):Prop where
 len:L.length=us.length
 ok:jJ L
 qlen:Q.length+vs.length=us.length
 qok:jJ Q
 lt:jd (L.drop g)<jd vs
 val:jd us=jd L+jd vs*(WB^g*jd (Q.drop g))
section
variable {us vs L Q N:List Nat} {j t:Nat}
theorem Dw.start {M:Nat} (ou:jJ us) (hl:M+vs.length=us.length) (h:jd (us.drop M)<jd vs):Dw us vs us (List.replicate M 0) M:=by
 refine⟨rfl,ou,by simp[hl],K9 _,h,?_⟩;simp[jd]
theorem Dw.above (h:Dw us vs L Q (j+1)) (ov:jJ vs):jd (L.drop (j+(vs.length+1)))=0:=by
 have hv:=xj ov;have h5:=h.lt;rcases Qae (L.drop (j+1)).length vs.length with hl | hl
 ·rw[Qbx (by rw[Qa3] at hl;omega)];rfl
 ·have h7:=JP (L.drop (j+1)) vs.length hl
  rw[QbM,show j+1+vs.length=j+(vs.length+1) from by omega] at h7;generalize jd (L.drop (j+(vs.length+1)))=X at *;rcases QaA X with h0 | h0
  ·exact h0
  ·have:WB^vs.length*1≤WB^vs.length*X:=Qan _ h0
   omega
theorem Ci {B a b V:Nat} (ha:a<B) (hb:b<V):a+B*b<B*V:=by
 have h3:B*(b+1)≤B*V:=Qan _ hb;rw[Qau,Qbr] at h3;omega
theorem Dw.up (h:Dw us vs L Q (j+1)) (hj:j<L.length):jd (L.drop j)<WB*jd vs:=by
 rw[Rd L j hj];exact Ci (ka h.ok j) h.lt
theorem Dw.part (h:Dw us vs L Q (j+1)) (ov:jJ vs) (hj:j+vs.length<L.length):jd (L.drop j)=kP L j (vs.length+1):=by
 rw[JP (L.drop j) (vs.length+1) (by rw[Qa3];omega),QbM,h.above ov,QbF,Qbf];rfl
theorem Dw.step (h:Dw us vs L Q (j+1)) (ov:jJ vs) (hj:j<Q.length) (hN:y6 L N j (vs.length+1)) (e:kP L j (vs.length+1)=jd vs*t+kP N j (vs.length+1)) (hr:kP N j (vs.length+1)<jd vs) (ht:t<WB):Dw us vs N (Q.set j t) j:=by
 have hlen:=h.len;have hql:=h.qlen;have hNl:=hN.len;have eL:=h.part ov (by omega)
 have eN:jd (N.drop j)=kP N j (vs.length+1):=by
  rw[JP (N.drop j) (vs.length+1) (by rw[Qa3];omega),QbM,hN.high,h.above ov,QbF,Qbf];rfl
 refine⟨by omega,hN.ok,by simpa using hql,zm h.qok _ _ ht,by rw[eN];exact hr,?_⟩;rw[h.val,JP L j (by omega),JP N j (by omega),eL,eN,hN.low,e,Rd (Q.set j t) j (by simpa using hj),QaS hj,Qa9 (by omega)];simp only[Qbl];rw[QaD]
 have q1:jd vs*(WB^j*WB*jd (Q.drop (j+1)))=jd vs*(WB^j*(WB*jd (Q.drop (j+1)))):=by rw[Qal (WB^j)]
 have q2:WB^j*(jd vs*t)=jd vs*(WB^j*t):=by rw[←Qal,Qam (WB^j),Qal]
 rw[q1,Qau (WB^j),q2,Qau (WB^j),Qau (jd vs)];generalize jd vs*(WB^j*t)=a1;generalize jd vs*(WB^j*(WB*jd (Q.drop (j+1))))=a2;generalize WB^j*kP N j (vs.length+1)=a3;generalize jd (L.take j)=a4;omega
theorem Dw.last (h:Dw us vs L Q 0):jd Q=jd us/jd vs∧jd L=jd us%jd vs:=by
 have h5:=h.lt;have h6:=h.val;simp only[Qa0,Qb0,Qbd] at h5 h6
 have hp:0<jd vs:=by omega
 rw[h6];refine⟨?_,?_⟩
 ·rw[Nat.add_mul_div_left _ _ hp,Qbt h5,Qbi]
 ·rw[Nat.add_mul_mod_self_left,Qbm h5]
end
theorem DS {W U V t A br:Nat} (hd:yU WB U V t) (e:A+V*t=U+W*br) (hb:br=0):U=V*t+A∧A<V:=by
 subst hb;have h3:=hd.2.2;rw[Qaz,Qbd,Qam t] at h3;omega
theorem DR {W U V t A A2 br cr:Nat} (hd:yU WB U V t) (hA:A<W) (hA2:A2<W) (hV:V<W) (e:A+V*t=U+W*br) (e2:A2+W*cr=A+V) (hb:br=1):0<t∧U=V*(t-1)+A2∧A2<V:=by
 subst hb;have h2:=hd.2.1;rw[Qam t] at h2
 cases t with
 | zero=>rw[QbF] at e;omega
 | succ k=>
  rw[Qau,Qbr] at e h2
  have hcr:cr=1:=by
   rcases Qck cr 1 with h | h | h
   ·have:cr=0:=by omega
    subst this;omega
   ·exact h
   ·have:W*2≤W*cr:=Qan _ h
    omega
  subst hcr;refine⟨by omega,?_,?_⟩
  ·rw[Qb1];omega
  ·omega
theorem UW {L:List Nat} (h:jJ L) (o n:Nat) (hl:o+n≤L.length):kP L o n<WB^n:=by
 unfold kP;have:=xj (yR (EY h o) n)
 rwa [Qak,Qa3,QaJ (by omega)] at this
theorem Bl {ys:List Nat} {n s:Nat} (hl:ys.length=n+1) (ok:jJ ys) (hs:s+Lib.bitLen (ys[n]?.getD 0)=64) (hp:0<ys[n]?.getD 0) {L:List Nat} (hL:L.length=n+2) (oL:jJ L) (hv:jd L=jd ys*2^s):
  jd (L.take (n+1))=jd ys*2^s∧WB≤2*(L.take (n+1))[n]?.getD 0:=by
 have hlast:=ka ok n;obtain⟨l1,l2,l3,l4⟩:=XW hp hlast;have hP:0<2^s:=Qbs s;have hY:=qt ys n;rw[Qad (by omega)] at hY;have hlow:=xj (yR ok n);rw[Qak,QaJ (by omega)] at hlow;generalize ys[n]?.getD 0=z at *
 have hz1:(z+1)*2^s≤WB:=by
  have e:2^Lib.bitLen z*2^s=WB:=by rw[←Qbj,show Lib.bitLen z+s=64 by omega]
  rw[←e];exact Qas _ l4
 have hz2:2^63≤z*2^s:=by
  have e:2^(Lib.bitLen z-1)*2^s=2^63:=by rw[←Qbj,show Lib.bitLen z-1+s=63 by omega]
  rw[←e];exact Qas _ l3
 generalize jd (ys.take n)=X at *
 have hup:jd ys*2^s<WB^(n+1):=by
  have a:jd ys<WB^n*(z+1):=by rw[hY,Qau,Qbr];omega
  have b:jd ys*2^s<WB^n*(z+1)*2^s:=Qba a hP
  have c:WB^n*(z+1)*2^s≤WB^n*WB:=by rw[Qal];exact Qan _ hz1
  rw[QaD];omega
 have hdn:WB^n*2^63≤jd ys*2^s:=by
  have a:WB^n*z≤jd ys:=by omega
  have b:WB^n*z*2^s≤jd ys*2^s:=Qas _ a
  have c:WB^n*2^63≤WB^n*z*2^s:=by rw[Qal];exact Qan _ hz2
  omega
 have hcut:=JP L (n+1) (by omega)
 have h0:jd (L.drop (n+1))=0:=by
  rcases QaA (jd (L.drop (n+1))) with h | h
  ·exact h
  ·have:WB^(n+1)*1≤WB^(n+1)*jd (L.drop (n+1)):=Qan _ h
   omega
 rw[h0,QbF,Qbf,hv] at hcut;refine⟨hcut.symm,?_⟩;have hT:=qt (L.take (n+1)) n;rw[Qad (by rw[Qak];omega),List.take_take,QaJ (by omega),←hcut] at hT;have hlt2:=xj (yR oL n);rw[Qak,QaJ (by omega)] at hlt2;generalize (L.take (n+1))[n]?.getD 0=q at *
 have hq:2^63≤q:=by
  rcases Qae q (2^63) with h | h
  ·have:WB^n*(q+1)≤WB^n*2^63:=Qan _ h
   rw[Qau,Qbr] at this;omega
  ·exact h
 unfold WB;omega
theorem Pv {L:List Nat} {X P n M V:Nat} (hv:jd L=X*P) (hX:X<WB^(n+M+1)) (hV:WB^n*P≤V) (hl:M+1≤L.length) (hP:0<P):jd (L.drop (M+1))<V:=by
 have hc:=JP L (M+1) hl;rw[hv] at hc;have h1:X*P<WB^(n+M+1)*P:=Qba hX hP;rw[show n+M+1=(M+1)+n by omega,Qbj,Qal] at h1
 have h2:WB^(M+1)*jd (L.drop (M+1))<WB^(M+1)*(WB^n*P):=by omega
 exact Qac (Nat.lt_of_mul_lt_mul_left h2) hV
theorem Ia (ws:List Nat):ws.take (jH ws).length=jH ws:=by
 refine Kg (P:=fun ws=>ws.take (jH ws).length=jH ws) rfl (fun l x ih=> ?_) ws;by_cases h:x=0
 ·subst h
  rw[Jn,List.take_append_of_le_length (Ko l)];exact ih
 ·rw[Jm l x h,Qad (Nat.le_refl _)]
