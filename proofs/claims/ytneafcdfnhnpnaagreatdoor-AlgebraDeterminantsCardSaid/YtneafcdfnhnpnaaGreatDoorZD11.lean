/- Contract: the number with these digits. -/
import Derived.Test.YtneafcdfnhnpnaaGreatDoorZD09
set_option maxRecDepth 100000
set_option maxHeartbeats 4000000
namespace Go.Proofs.YtneafcdfnhnpnaaGreatDoor
open Go.RowKit Go.Lib Go.Joins
def zn (s rest:List UInt8) (n:Nat):Prop:=jf s=n*10^rest.length+jf rest∧(n=0∨rest.length%19=0)∧rest.length≤s.length∧j3 rest
theorem zn.start {s:List UInt8} (h:j3 s):zn s s 0:=⟨by omega,.inl rfl,Nat.le_refl _,h⟩
theorem zn.step {s rest:List UInt8} {n:Nat} (h:zn s rest n) (h0:0<rest.length):
  zn s (rest.drop ((rest.length-1)%19+1)) (n*10000000000000000000+jf (rest.take ((rest.length-1)%19+1)))∧jf (rest.take ((rest.length-1)%19+1))<10000000000000000000:=by
 obtain⟨h1,h2,h3,h4⟩:=h;generalize hk:(rest.length-1)%19+1=k
 have hk1:k≤rest.length:=by have:=Nat.mod_le (rest.length-1) 19;omega
 have hk2:k≤19:=by have:=Nat.mod_lt (rest.length-1) (show 0<19 by decide);omega
 have hlen:(rest.drop k).length=rest.length-k:=by simp
 have htl:(rest.take k).length=k:=by simp;omega
 have hr:jf rest=jf (rest.take k)*10^(rest.length-k)+jf (rest.drop k):=by
  have:=Jo (rest.take k) (rest.drop k);rw[List.take_append_drop,hlen] at this;exact this
 have hlt:jf (rest.take k)<10^k:=by have:=qP (Jl h4 k);rwa [htl] at this
 have hk19:n*10000000000000000000=n*10^k:=by
  rcases h2 with rfl | h2
  ·simp
  ·have:k=19:=by omega
   subst this;rfl
 have hsplit:n*10^rest.length=n*10^k*10^(rest.length-k):=by rw[Nat.mul_assoc,←Nat.pow_add];congr 2;omega
 have he:jf s=(n*10^k+jf (rest.take k))*10^(rest.length-k)+jf (rest.drop k):=by
  rw[h1,hr,hsplit,Nat.add_mul];omega
 refine⟨⟨by rw[hk19,hlen];exact he,.inr (by rw[hlen];omega),by omega,X8 h4 k⟩,?_⟩;have:10^k≤10^19:=Nat.pow_le_pow_right (by decide) hk2;omega
theorem zn.fits {s rest:List UInt8} {n:Nat} (h:zn s rest n) (hs:j3 s) (hl:s.length≤1000000) (hd:qt s.length):jl n:=by
 have h1:=qP hs;have h2:n*1≤n*10^rest.length:=Nat.mul_le_mul_left _ (Nat.one_le_pow _ _ (by decide));have h3:=h.1;exact jl.of_pow (k:=s.length) (by omega) hd (by omega)
theorem Rk (l:List UInt8) (k:Nat):(ByteArray.mk l.toArray).extract 0 k=⟨(l.take k).toArray⟩:=by
 apply ByteArray.ext
 simp
theorem Rh (l:List UInt8) (k n:Nat) (h:l.length≤n):(ByteArray.mk l.toArray).extract k n=⟨(l.drop k).toArray⟩:=by
 apply ByteArray.ext
 simp
 rw[List.take_of_length_le (by simp;omega)]
theorem Bc (l:List UInt8) (w:World) (h:j3 l) (h0:0<l.length) (hl:l.length≤19):
  Calls Tryz.prog 219 #[.string ⟨l.toArray⟩,.int .i64 10,.int .i64 64] w fun e w'=>e = .returned (.tuple #[.int .u64 (jf l:Nat),.nilIface])∧Below w.heap.size w w':=by
 have hs:(ByteArray.mk l.toArray).size=l.length:=by simp[ByteArray.size]
 refine(Tryz.strconv_ParseUint_10_at64_ok ⟨l.toArray⟩ (by rw[hs];omega) (jf l) (by simpa using Bd l h (by intro e;subst e;simp at h0) hl) w).mono fun e w' ⟨h1,h2⟩=>⟨h1,?_⟩
 rcases h2 with rfl | rfl
 ·exact Below.refl _ _
 ·exact below_bytesWorld _ _ _ _ (Nat.le_refl _)
theorem ze (s:List UInt8) (w:World) (h:j3 s) (hl:s.length≤1000000) (hd:qt s.length):
  Calls Tryz.prog 171 #[.string ⟨s.toArray⟩] w fun e w'=>∃v,e = .returned v∧Nt w' v (jf s)∧Below w.heap.size w w':=by
 have hst:=hid (zn.start h);have H:=hid h;clear h;go_enter Tryz.func171,Tryz.ntmps171
 go_wp2
 go_loopg [0,3,4,5,6] s.length (fun g d v _ _ _ wr=>∃(rest:List UInt8) (n:Nat),g=rest.length∧d = .string ⟨rest.toArray⟩∧Hid (Nt wr v n)∧Hid (zn s rest n)∧Below w.heap.size w wr)
 case atStart=>exact⟨s,0,rfl,rfl,hid Nt.nil,hst,Below.refl _ _⟩
 case round=>
  obtain⟨rest,n,rfl,rfl,hN,hI,hB⟩:=hrel;have hrl:rest.length≤s.length:=hI.out.2.2.1;by_cases h0:0<rest.length
  ·obtain⟨hst,hwl⟩:=hI.out.step h0
   have hkl:(rest.length-1)%19+1≤rest.length:=by have:=Nat.mod_le (rest.length-1) 19;omega
   have hpc:=fun w=>Bc (rest.take ((rest.length-1)%19+1)) w (Jl hI.out.2.2.2 _) (by rw[List.length_take];omega) (by rw[List.length_take];have:=Nat.mod_lt (rest.length-1) (show 0<19 by decide);omega)
   have hfit:=hid (hI.out.fits H.out hl hd)
   have hdl:(rest.drop ((rest.length-1)%19+1)).length<rest.length:=by rw[List.length_drop];omega
   rw[←Rk] at hpc;have Hst:=hid hst;have HPC:=hid hpc;clear hst hpc;have hww:jf (rest.take ((rest.length-1)%19+1))<WB:=Nat.lt_trans hwl J0;have Hdl:=hid hdl;clear hdl
   go_wp2_with fail
   refine(HPC.out _).mono ?_;rintro e w1 ⟨rfl,hB1⟩
   go_wp2_with fail
   refine(H6 _ n 10000000000000000000 _ _ (hN.out.below hB1) J0 hww hfit.out).mono ?_;rintro e w2 ⟨v2,rfl,hv2,hB2⟩
   go_wp2
   go_roundg ((rest.drop ((rest.length-1)%19+1)).length)
   case measure=>exact Hdl.out
   case rel=>exact⟨_,_,rfl,by rw[Rh _ _ _ (Nat.le_refl _)],hid hv2,Hst,hB.trans ((hB1.trans (hB2.mono hB1.size)).mono hB.size)⟩
  ·have h00:rest.length=0:=by omega
   have hr:rest=[]:=List.length_eq_zero_iff.1 h00;subst hr
   have hval:jf s=n:=by have:=hI.out.1;simpa [jf,y4] using this
   have Hval:=hid hval;clear hval
   go_wp2
   go_ret;exact⟨_,rfl,by rw[Hval.out];exact hN.out,hB⟩
end Go.Proofs.YtneafcdfnhnpnaaGreatDoor
namespace Go.Proofs.YtneafcdfnhnpnaaGreatDoor
open Go.RowKit Go.Lib
theorem Dl {W0 x x':World} {p:Nat} {a1 a2:Value} (hb:Below x.heap.size x x') (hp:p<W0.heap.size)
  (h1:x.cell? ⟨p,1,none⟩=some a1) (h2:x.cell? ⟨p,2,none⟩=some a2) (h5:Below W0.heap.size W0 x):
  x'.cell? ⟨p,1,none⟩=some a1∧x'.cell? ⟨p,2,none⟩=some a2∧Below W0.heap.size W0 x':=by
 have hs:=h5.size;exact⟨(hb.cell (p:=⟨p,1,none⟩) (Nat.lt_of_lt_of_le hp hs)).trans h1,(hb.cell (p:=⟨p,2,none⟩) (Nat.lt_of_lt_of_le hp hs)).trans h2,h5.trans (hb.mono hs)⟩
def jg (q:Rat):List UInt8:=(if q.num<0 then [45] else [])++decDigits q.num.natAbs++(if q.den=1 then [] else 47::decDigits q.den)
def kR (q:Rat):Prop:=600<nDigits q.num.natAbs∨600<nDigits q.den
instance (q:Rat):Decidable (kR q):=by unfold kR;infer_instance
def qS (q:Rat):Ending:=if kR q then .returned (.tuple #[.string ⟨#[]⟩,.int .i64 4]) else .returned (.tuple #[.string ⟨(jg q).toArray⟩,.int .i64 0])
def LM (q:Rat) (w:World) (e:Ending) (w':World):Prop:=e=qS q∧Below w.heap.size w w'
theorem Qr {q:Rat} (h:kR q):qS q = .returned (.tuple #[.string ⟨#[]⟩,.int .i64 4]):=by unfold qS;rw[if_pos h]
theorem Je {q:Rat} (h:¬kR q):qS q = .returned (.tuple #[.string ⟨(jg q).toArray⟩,.int .i64 0]):=by unfold qS;rw[if_neg h]
theorem Xu {a b:ByteArray} (h:a=b):Ending.returned (.tuple #[.string a,.int .i64 0]) = .returned (.tuple #[.string b,.int .i64 0]):=by rw[h]
theorem Rm {x k:Nat} (hk:38≤k) (h:WB^k≤x):600<nDigits x:=by
 rcases Nat.lt_or_ge 600 (nDigits x) with h6 | h6
 ·exact h6
 ·exfalso
  have e1:10^nDigits x≤10^(19*k):=Nat.pow_le_pow_right (by decide) (by omega);rw[Nat.pow_mul] at e1;have e2:(10^19)^k≤WB^k:=Nat.pow_le_pow_left (by decide) k;exact Nat.lt_irrefl _ (Nat.lt_of_lt_of_le (lt_pow_nDigits x) (Nat.le_trans e1 (Nat.le_trans e2 h)))
theorem VQ {w:World} {v:Value} {x:Nat} (h:Nt w v x):∃A n c,v = .slice A n c∧n≤140737488355328∧(38<n→600<nDigits x)∧(nDigits x≤600→n≤38):=by
 obtain⟨ws,A,c,rfl,h1,h2,h3,hc1,hc2,hs⟩:=h.open_
 have key:38<ws.length→600<nDigits x:=by
  intro hl;have h4:=JK h3 (by intro e;subst e;simp at hl);rw[h1] at h4;exact Rm (by omega) h4
 exact⟨A,ws.length,c,rfl,by omega,key,fun h6=>by
  rcases Nat.lt_or_ge 38 ws.length with hl | hl
  ·have:=key hl;omega
  ·exact hl⟩
theorem XP (v:Value) (q:Rat) (w:World) (h:Rt w v q) (f1:jl q.num.natAbs) (f2:jl q.den) (hG:jN w):Calls Tryz.prog 124 #[v] w (LM q w):=by
 obtain⟨neg,nv,dv,n,d,rfl,h1,h2,z1,z2,z3,z4,hneg,hn,hd⟩:=h.open_;clear z1 z2 z3 z4 h
 have hlong:kR q↔(600<nDigits n∨600<nDigits d):=by unfold kR;rw[hn,hd]
 have htxt:jg q=(if neg=true then [45] else [])++decDigits n++(if d=1 then [] else 47::decDigits d):=by
  unfold jg;rw[hn,hd,hneg];congr 2;by_cases h:q.num<0 <;> simp[h]
 rw[←hn] at f1;rw[←hd] at f2;have Hlong:=hid hlong;have Htxt:=hid htxt;clear hlong htxt hneg hn hd;obtain⟨A1,k1,c1,hnv,hk1,hw1,hm1⟩:=VQ h1;obtain⟨A2,k2,c2,hdv,hk2,hw2,hm2⟩:=VQ h2
 obtain⟨W0,hW0⟩:∃W0,W0=w.alloc (.cells #[.bool neg,nv,dv] 122):=⟨_,rfl⟩
 have hP:ja W0 w.heap.size 122 [.bool neg,nv,dv]:=by rw[hW0];exact ja.make w _ [.bool neg,nv,dv]
 have hB0:Below w.heap.size w W0:=by rw[hW0];exact(Below.refl _ _).alloc (Nat.le_refl _) _
 have hp:w.heap.size<W0.heap.size:=by rw[hW0];simp
 have N1:=h1.below hB0;have N2:=h2.below hB0;have hG0:=hid (hG.below hB0);clear h1 h2 hG;obtain⟨a0,a1,a2,_,_,_⟩:=hP.three;by_cases hb1:38<k1
 ·have hL:=hid (Hlong.out.2 (.inl (hw1 hb1)))
  clear hw1 hw2 hm1 hm2 N1 N2;subst hnv hdv;go_enter Tryz.func124,Tryz.ntmps124
  go_upto_region 1 with fail
  rw[←hW0];clear hW0
  go_wp2
  go_ret2;exact⟨by rw[Qr hL.out];rfl,hB0⟩
 ·by_cases hb2:38<k2
  ·have hL:=hid (Hlong.out.2 (.inr (hw2 hb2)))
   clear hw1 hw2 hm1 hm2 N1 N2;subst hnv hdv;go_enter Tryz.func124,Tryz.ntmps124
   go_upto_region 1 with fail
   rw[←hW0];clear hW0
   go_wp2
   go_ret2;exact⟨by rw[Qr hL.out];rfl,hB0⟩
  ·clear hw1 hw2 hm1 hm2
   have hd1:decide ((38:Int)<(k1:Int))=false:=decide_eq_false (by omega);have hd2:decide ((38:Int)<(k2:Int))=false:=decide_eq_false (by omega);subst hnv hdv;go_enter Tryz.func124,Tryz.ntmps124
   go_upto_region 1 with fail
   rw[←hW0];clear hW0
   go_wp2
   go_region_held3 (fun w'=>w'.cell? ⟨w.heap.size,1,none⟩=some (.slice A1 k1 c1)∧w'.cell? ⟨w.heap.size,2,none⟩=some (.slice A2 k2 c2)∧Below W0.heap.size W0 w')
    (first | exact⟨a1,a2,(Below.refl _ _).drew⟩ | exact Dl (by assumption) hp (by assumption) (by assumption) (by assumption))
    (first
     | (go_at_call_of 188 (Value.slice A1 k1 c1);go_split_ands;refine(H3 (.slice A1 k1 c1) n _ (N1.below (by assumption)) f1 (hG0.out.below (by assumption))).mono ?_;rintro e w1 ⟨rfl,hB1⟩)
     | (go_at_call_of 188 (Value.slice A2 k2 c2);go_split_ands;refine(H3 (.slice A2 k2 c2) d _ (N2.below (by assumption)) f2 (hG0.out.below (by assumption))).mono ?_;rintro e w2 ⟨rfl,hB2⟩))
   have hS:w2.cell? ⟨w.heap.size,1,none⟩=some (.slice A1 k1 c1)∧w2.cell? ⟨w.heap.size,2,none⟩=some (.slice A2 k2 c2)∧Below W0.heap.size W0 w2:=by assumption
   have l1:=decDigits_length n;have l2:=decDigits_length d;have hWt:=hB0.trans (hS.2.2.mono hB0.size);have a0':=(hS.2.2.cell (p:=⟨w.heap.size,0,none⟩) hp).trans a0;have a1':=hS.1;have a2':=hS.2.1;have M2:=N2.below hS.2.2;clear hS;by_cases hl1:600<nDigits n
   ·have hL:=hid (Hlong.out.2 (.inl hl1))
    clear M2
    go_wp2
    go_ret2;exact⟨by rw[Qr hL.out];rfl,hWt⟩
   ·by_cases hl2:600<nDigits d
    ·have hL:=hid (Hlong.out.2 (.inr hl2))
     clear M2
     go_wp2
     go_ret2;exact⟨by rw[Qr hL.out];rfl,hWt⟩
    ·have hL:=hid (fun h=>by rcases Hlong.out.1 h with h | h;exact hl1 h;exact hl2 h:¬kR q)
     by_cases hone:d=1
     ·have hd1':=decide_eq_true hone
      have Hd1:=hid hd1';cases neg
      ·have Ht:=hid (show jg q=decDigits n from by rw[Htxt.out,hone];simp)
       clear hone hd1'
       go_wp2_with fail
       refine(kU _ d _ M2).mono ?_;rintro e w3 ⟨rfl,rfl⟩;rw[Hd1.out]
       go_wp2
       go_ret2;refine⟨?_,hWt⟩;rw[Je hL.out];exact Xu (by rw[Ht.out])
      ·have Ht:=hid (show jg q=[45]++decDigits n from by rw[Htxt.out,hone];simp)
       clear hone hd1'
       go_wp2_with fail
       refine(kU _ d _ M2).mono ?_;rintro e w3 ⟨rfl,rfl⟩;rw[Hd1.out]
       go_wp2
       go_ret2;refine⟨?_,hWt⟩;rw[Je hL.out];exact Xu (by rw[Ht.out,←ByteArray.mk_append_mk])
     ·have hd1':=decide_eq_false hone
      have Hd1:=hid hd1';cases neg
      ·have Ht:=hid (show jg q=decDigits n++([47]++decDigits d) from by rw[Htxt.out,if_neg hone];simp)
       clear hone hd1'
       go_wp2_with fail
       refine(kU _ d _ M2).mono ?_;rintro e w3 ⟨rfl,rfl⟩;rw[Hd1.out]
       go_wp2
       go_ret2;refine⟨?_,hWt⟩;rw[Je hL.out];exact Xu (by rw[Ht.out,←ByteArray.mk_append_mk,←ByteArray.mk_append_mk])
      ·have Ht:=hid (show jg q=[45]++decDigits n++([47]++decDigits d) from by rw[Htxt.out,if_neg hone];simp)
       clear hone hd1'
       go_wp2_with fail
       refine(kU _ d _ M2).mono ?_;rintro e w3 ⟨rfl,rfl⟩;rw[Hd1.out]
       go_wp2
       go_ret2;refine⟨?_,hWt⟩;rw[Je hL.out];exact Xu (by rw[Ht.out,←ByteArray.mk_append_mk,←ByteArray.mk_append_mk,←ByteArray.mk_append_mk])
theorem YR {W0 x x':World} {p q:Nat} {a1 a2 b1 b2:Value} (hb:Below x.heap.size x x') (hp:p<W0.heap.size) (hq:q<W0.heap.size)
  (h1:x.cell? ⟨p,1,none⟩=some a1) (h2:x.cell? ⟨p,2,none⟩=some a2) (h3:x.cell? ⟨q,1,none⟩=some b1) (h4:x.cell? ⟨q,2,none⟩=some b2) (h5:Below W0.heap.size W0 x):
  x'.cell? ⟨p,1,none⟩=some a1∧x'.cell? ⟨p,2,none⟩=some a2∧x'.cell? ⟨q,1,none⟩=some b1∧x'.cell? ⟨q,2,none⟩=some b2∧Below W0.heap.size W0 x':=by
 have hs:=h5.size;exact⟨(hb.cell (p:=⟨p,1,none⟩) (Nat.lt_of_lt_of_le hp hs)).trans h1,(hb.cell (p:=⟨p,2,none⟩) (Nat.lt_of_lt_of_le hp hs)).trans h2,(hb.cell (p:=⟨q,1,none⟩) (Nat.lt_of_lt_of_le hq hs)).trans h3,(hb.cell (p:=⟨q,2,none⟩) (Nat.lt_of_lt_of_le hq hs)).trans h4,h5.trans (hb.mono hs)⟩
def qE (q:Rat) (w:World) (e:Ending) (w':World):Prop:=∃v,e = .returned v∧Rt w' v q∧Below w.heap.size w w'
theorem zc (neg:Bool) (n d:Nat):j4 neg n d=mkRat (sg neg n) d:=by unfold j4;exact D3 neg n d
theorem Nt.pos_len {w:World} {v:Value} {x:Nat} (h:Nt w v x) (h0:x≠0):∃A k c,v = .slice A k c∧0<k∧k≤140737488355328:=by
 obtain⟨ws,A,c,rfl,g1,g2,g3,hc1,hc2,hs⟩:=h.open_;refine⟨A,ws.length,c,rfl,?_,by omega⟩;rcases Nat.eq_zero_or_pos ws.length with hl | hl
 ·exfalso;apply h0;rw[←g1,List.length_eq_zero_iff.1 hl];rfl
 ·exact hl
theorem WT (na nb:Bool) (nv dv mv ev:Value) (n d m e:Nat) (w:World) (h1:Nt w nv n) (h2:Nt w dv d) (h3:Nt w mv m) (h4:Nt w ev e) (hd:d≠0) (he:e≠0)
  (f1:jl n) (f2:jl d) (f3:jl m) (f4:jl e)
  (c1:Nat.gcd n d=1) (c2:Nat.gcd m e=1):
  Calls Tryz.prog 110 #[.agg #[.bool na,nv,dv],.agg #[.bool nb,mv,ev]] w (qE (j4 na n d*j4 nb m e) w):=by
 have Hm:=hid (D6 na nb n d m e hd he);have Hl:=hid (D7 n d m e hd he c1 c2);clear c1 c2;have hD1:0<d/Nat.gcd m d:=Nat.div_pos (Nat.gcd_le_right m (by omega)) (Nat.gcd_pos_of_pos_right _ (by omega));have hE1:0<e/Nat.gcd n e:=Nat.div_pos (Nat.gcd_le_right n (by omega)) (Nat.gcd_pos_of_pos_right _ (by omega))
 obtain⟨W0,hW0⟩:∃W0,W0=((w.alloc (.cells #[.bool na,nv,dv] 122)).alloc (.cells #[.bool nb,mv,ev] 122)).alloc (.cells #[.bool false,.slice none 0 0,.slice none 0 0] 122):=⟨_,rfl⟩
 have hB0:Below w.heap.size w W0:=by rw[hW0];exact(((Below.refl _ _).alloc (Nat.le_refl _) _).alloc (by simp) _).alloc (by simp;omega) _
 have hs0:W0.heap.size=w.heap.size+3:=by rw[hW0];simp
 have hP:ja W0 w.heap.size 122 [.bool na,nv,dv]:=by rw[hW0];exact((ja.make w _ [.bool na,nv,dv]).alloc _).alloc _
 have hQ:ja W0 (w.heap.size+1) 122 [.bool nb,mv,ev]:=by
  rw[hW0];have:=ja.make (w.alloc (.cells #[.bool na,nv,dv] 122)) 122 [.bool nb,mv,ev];simp only[World.size_alloc] at this;exact this.alloc _
 have hR:ja W0 (w.heap.size+1+1) 122 [.bool false,.slice none 0 0,.slice none 0 0]:=by
  rw[hW0];have:=ja.make ((w.alloc (.cells #[.bool na,nv,dv] 122)).alloc (.cells #[.bool nb,mv,ev] 122)) 122 [.bool false,.slice none 0 0,.slice none 0 0];simp only[World.size_alloc] at this;exact this
 have N1:=h1.below hB0;have N2:=h2.below hB0;have N3:=h3.below hB0;have N4:=h4.below hB0
 have S0:W0.drew.cell? ⟨w.heap.size,1,none⟩=some nv∧W0.drew.cell? ⟨w.heap.size,2,none⟩=some dv∧W0.drew.cell? ⟨w.heap.size+1,1,none⟩=some mv∧W0.drew.cell? ⟨w.heap.size+1,2,none⟩=some ev∧Below W0.heap.size W0 W0.drew:=
  ⟨hP.cell 1,hP.cell 2,hQ.cell 1,hQ.cell 2,(Below.refl _ _).drew⟩
 have hp:w.heap.size<W0.heap.size:=by omega
 have hq:w.heap.size+1<W0.heap.size:=by omega
 have HS0:=hid hs0;clear hs0 h1 h2 h3 h4;go_enter Tryz.func110,Tryz.ntmps110
 go_upto_region 1 with fail
 rw[←hW0];clear hW0
 go_region_held3 (fun w'=>w'.cell? ⟨w.heap.size,1,none⟩=some nv∧w'.cell? ⟨w.heap.size,2,none⟩=some dv∧w'.cell? ⟨w.heap.size+1,1,none⟩=some mv∧w'.cell? ⟨w.heap.size+1,2,none⟩=some ev∧Below W0.heap.size W0 w')
  (first | exact S0 | exact YR (by assumption) hp hq (by assumption) (by assumption) (by assumption) (by assumption) (by assumption))
  (first
   | (go_at_call_of 172 nv;go_split_ands;refine(zW nv ev n e _ (N1.below (by assumption)) (N4.below (by assumption)) f1 f4).mono ?_;rintro e w1 ⟨l,rfl,hl1,hB1⟩)
   | (go_at_call_of 172 mv;go_split_ands;refine(zW mv dv m d _ (N3.below (by assumption)) (N2.below (by assumption)) f3 f2).mono ?_;rintro e w2 ⟨r,rfl,hr,hB2⟩))
 have hl:=hl1.below hB2
 have hS2:w2.cell? ⟨w.heap.size,1,none⟩=some nv∧w2.cell? ⟨w.heap.size,2,none⟩=some dv∧w2.cell? ⟨w.heap.size+1,1,none⟩=some mv∧w2.cell? ⟨w.heap.size+1,2,none⟩=some ev∧Below W0.heap.size W0 w2:=by assumption
 clear hl1 hB1 hB2;have M1:=N1.below hS2.2.2.2.2;have M2:=N2.below hS2.2.2.2.2;have M3:=N3.below hS2.2.2.2.2;have M4:=N4.below hS2.2.2.2.2;have HS2:=hid hS2;clear hS2;generalize hg1:Nat.gcd n e=g1 at *;generalize hg2:Nat.gcd m d=g2 at *
 have hg1p:0<g1:=by rw[←hg1];exact Nat.gcd_pos_of_pos_right _ (by omega)
 have hg2p:0<g2:=by rw[←hg2];exact Nat.gcd_pos_of_pos_right _ (by omega)
 have q1:jl (n/g1):=f1.le (Nat.div_le_self _ _);have q2:jl (m/g2):=f3.le (Nat.div_le_self _ _);have q3:jl (d/g2):=f2.le (Nat.div_le_self _ _);have q4:jl (e/g1):=f4.le (Nat.div_le_self _ _);clear hg1 hg2
 go_wp2
 go_region_held3 (fun w'=>w'.cell? ⟨w.heap.size,1,none⟩=some nv∧w'.cell? ⟨w.heap.size,2,none⟩=some dv∧w'.cell? ⟨w.heap.size+1,1,none⟩=some mv∧w'.cell? ⟨w.heap.size+1,2,none⟩=some ev∧Below w2.heap.size w2 w')
  (first | exact⟨HS2.out.1,HS2.out.2.1,HS2.out.2.2.1,HS2.out.2.2.2.1,(Below.refl _ _).drew⟩ | exact YR (by assumption) (Nat.lt_of_lt_of_le hp HS2.out.2.2.2.2.size) (Nat.lt_of_lt_of_le hq HS2.out.2.2.2.2.size) (by assumption) (by assumption) (by assumption) (by assumption) (by assumption))
  (first
   | (go_at_call_of 176 nv;go_split_ands;refine(zU nv l n g1 _ (M1.below (by assumption)) (hl.below (by assumption)) hg1p f1).mono ?_;rintro e w3 ⟨x1,rfl,hx1,hB3⟩)
   | (go_at_call_of 176 mv;go_split_ands;refine(zU mv r m g2 _ (M3.below (by assumption)) (hr.below (by assumption)) hg2p f3).mono ?_;rintro e w4 ⟨x2,rfl,hx2,hB4⟩)
   | (go_at_call 178;go_split_ands;refine(Qn _ _ (n/g1) (m/g2) _ (hx1.below (by assumption)) hx2 q1 q2).mono ?_;rintro e w5 ⟨num,rfl,hnum,hB5⟩))
 have hS5:w5.cell? ⟨w.heap.size,1,none⟩=some nv∧w5.cell? ⟨w.heap.size,2,none⟩=some dv∧w5.cell? ⟨w.heap.size+1,1,none⟩=some mv∧w5.cell? ⟨w.heap.size+1,2,none⟩=some ev∧Below w2.heap.size w2 w5:=by assumption
 have L2:=Nat.lt_of_lt_of_le hp HS2.out.2.2.2.2.size;have L3:=Nat.lt_of_lt_of_le hq HS2.out.2.2.2.2.size;have L5:=Nat.lt_of_lt_of_le L2 hS5.2.2.2.2.size;have L6:=Nat.lt_of_lt_of_le L3 hS5.2.2.2.2.size;have P2:=M2.below hS5.2.2.2.2;have P4:=M4.below hS5.2.2.2.2;have hl5:=hl.below hS5.2.2.2.2;have hr5:=hr.below hS5.2.2.2.2;have hW5:=HS2.out.2.2.2.2.trans (hS5.2.2.2.2.mono HS2.out.2.2.2.2.size);have HS5:=hid hS5;clear hS5 M1 M2 M3 M4 hx1 hx2 hl hr
 go_wp2
 go_region_held3 (fun w'=>w'.cell? ⟨w.heap.size,1,none⟩=some nv∧w'.cell? ⟨w.heap.size,2,none⟩=some dv∧w'.cell? ⟨w.heap.size+1,1,none⟩=some mv∧w'.cell? ⟨w.heap.size+1,2,none⟩=some ev∧Below w5.heap.size w5 w')
  (first | exact⟨HS5.out.1,HS5.out.2.1,HS5.out.2.2.1,HS5.out.2.2.2.1,(Below.refl _ _).drew⟩ | exact YR (by assumption) L5 L6 (by assumption) (by assumption) (by assumption) (by assumption) (by assumption))
  (first
   | (go_at_call_of 176 dv;go_split_ands;refine(zU dv r d g2 _ (P2.below (by assumption)) (hr5.below (by assumption)) hg2p f2).mono ?_;rintro e w6 ⟨x1,rfl,hx1,hB6⟩)
   | (go_at_call_of 176 ev;go_split_ands;refine(zU ev l e g1 _ (P4.below (by assumption)) (hl5.below (by assumption)) hg1p f4).mono ?_;rintro e w7 ⟨x2,rfl,hx2,hB7⟩)
   | (go_at_call 178;go_split_ands;refine(Qn _ _ (d/g2) (e/g1) _ (hx1.below (by assumption)) hx2 q3 q4).mono ?_;rintro e w8 ⟨den,rfl,hden,hB8⟩))
 have hS8:w8.cell? ⟨w.heap.size,1,none⟩=some nv∧w8.cell? ⟨w.heap.size,2,none⟩=some dv∧w8.cell? ⟨w.heap.size+1,1,none⟩=some mv∧w8.cell? ⟨w.heap.size+1,2,none⟩=some ev∧Below w5.heap.size w5 w8:=by assumption
 have hnum8:=hnum.below hS8.2.2.2.2;have hW8:=hW5.trans (hS8.2.2.2.2.mono hW5.size);have hP8:=hP.below hW8 hp;have hQ8:=hQ.below hW8 hq;have hR8:=hR.below hW8 (by have:=HS0.out;omega);clear hS8 hx1 hx2 hnum P2 P4 hl5 hr5;obtain⟨c0,c1,c2,_,_,_⟩:=hP8.three;obtain⟨d0,d1,d2,_,_,_⟩:=hQ8.three;obtain⟨e0,e1,e2,k0,k1,k2⟩:=hR8.three;have hWt:=hB0.trans (hW8.mono hB0.size);have hDp:d/g2*(e/g1)≠0:=Nat.mul_ne_zero (by omega) (by omega)
 have key:∀ng:Bool,ng=((na != nb)&&decide (0<n/g1*(m/g2)))→Hid (Rt (((w8.setCell ⟨w.heap.size+1+1,0,none⟩ (.bool ng)).setCell ⟨w.heap.size+1+1,1,none⟩ num).setCell ⟨w.heap.size+1+1,2,none⟩ den) (.agg #[.bool ng,num,den]) (j4 na n d*j4 nb m e)):=by
  intro ng hng;apply hid;rw[zc,zc,Hm.out,←hng,←zc]
  refine Rt.mk_ hDp Hl.out ?_ (hnum8.put3 hR8 (js _) (jq _ _ _) (jq _ _ _) (js _) hnum8.noInt) (hden.put3 hR8 (js _) (jq _ _ _) (jq _ _ _) (js _) hnum8.noInt)
  intro h hz;rw[hng,hz] at h;simp at h
 have Key:=hid key;clear key;obtain⟨A2,k2',cc2,hdvs,_⟩:=hden.size_;by_cases hz:n/g1*(m/g2)=0
 ·have hdz:decide (0<n/g1*(m/g2))=false:=by simp[hz]
  obtain⟨A,cc,hnv⟩:=Nt.zero_len (hz ▸ hnum8);rw[hdz] at Key;clear hnum8 hden hz hdz;subst hnv hdvs;cases na <;> cases nb
  all_goals
   have KR:=Key.out false rfl
   go_wp2
   exact bodyPost_ret (v:= .agg #[.bool false,.slice A 0 cc,.slice A2 k2' cc2]) (by simp[results,Tryz.results110,go_sem,e0,e1,e2]) rfl ⟨_,rfl,KR.out,((hWt.setCell (by simp;omega) _).setCell (by simp;omega) _).setCell (by simp;omega) _⟩
 ·have hdz:decide (0<n/g1*(m/g2))=true:=by simp;omega
  obtain⟨A,kk,cc,hnv,hkk,hkm⟩:=hnum8.pos_len hz;rw[hdz] at Key;clear hnum8 hden hz hdz;subst hnv hdvs;cases na <;> cases nb
  ·have KR:=Key.out false rfl
   go_wp2
   exact bodyPost_ret (v:= .agg #[.bool false,.slice A kk cc,.slice A2 k2' cc2]) (by simp[results,Tryz.results110,go_sem,e0,e1,e2]) rfl ⟨_,rfl,KR.out,((hWt.setCell (by simp;omega) _).setCell (by simp;omega) _).setCell (by simp;omega) _⟩
  ·have KR:=Key.out true rfl
   go_wp2
   exact bodyPost_ret (v:= .agg #[.bool true,.slice A kk cc,.slice A2 k2' cc2]) (by simp[results,Tryz.results110,go_sem,e0,e1,e2]) rfl ⟨_,rfl,KR.out,((hWt.setCell (by simp;omega) _).setCell (by simp;omega) _).setCell (by simp;omega) _⟩
  ·have KR:=Key.out true rfl
   go_wp2
   exact bodyPost_ret (v:= .agg #[.bool true,.slice A kk cc,.slice A2 k2' cc2]) (by simp[results,Tryz.results110,go_sem,e0,e1,e2]) rfl ⟨_,rfl,KR.out,((hWt.setCell (by simp;omega) _).setCell (by simp;omega) _).setCell (by simp;omega) _⟩
  ·have KR:=Key.out false rfl
   go_wp2
   exact bodyPost_ret (v:= .agg #[.bool false,.slice A kk cc,.slice A2 k2' cc2]) (by simp[results,Tryz.results110,go_sem,e0,e1,e2]) rfl ⟨_,rfl,KR.out,((hWt.setCell (by simp;omega) _).setCell (by simp;omega) _).setCell (by simp;omega) _⟩
theorem WU (v u:Value) (p q:Rat) (w:World) (h:Rt w v p) (h':Rt w u q) (f1:jl p.num.natAbs) (f2:jl p.den) (f3:jl q.num.natAbs) (f4:jl q.den):
  Calls Tryz.prog 110 #[v,u] w (qE (p*q) w):=by
 obtain⟨na,nv,dv,n,d,rfl,h1,h2,hd,c1,_,hp,_,hn,hdd⟩:=h.open_;obtain⟨nb,mv,ev,m,e,rfl,h3,h4,he,c2,_,hq,_,hm,hee⟩:=h'.open_;rw[hp,hq];exact WT na nb nv dv mv ev n d m e w h1 h2 h3 h4 hd he (hn ▸ f1) (hdd ▸ f2) (hm ▸ f3) (hee ▸ f4) c1 c2
def qL (neg:Bool) (n d:Nat):List UInt8:=(if neg then [45] else [])++decDigits n++(if d=1 then [] else 47::decDigits d)
theorem GF {a:Int} {d:Nat} (hd:d≠0) (hc:Nat.gcd a.natAbs d=1):jg (mkRat a d)=qL (decide (a<0)) a.natAbs d:=by
 obtain⟨h1,h2⟩:=J7 hd hc;unfold jg qL;rw[h1,h2];by_cases h:a<0
 ·rw[if_pos h,decide_eq_true h];rfl
 ·rw[if_neg h,decide_eq_false h];rfl
theorem ZL (a:Int) (d:Nat) (hd:0<d):∃(g n1 d1:Nat),Nat.gcd a.natAbs d=g∧0<g∧g≤d∧d/g=d1∧d1≤d∧0<d1∧n1≤a.natAbs∧a.tdiv g=sg (decide (a<0)) n1∧(a<0→0<n1)∧jg (mkRat a d)=qL (decide (a<0)) n1 d1:=by
 have hg:0<Nat.gcd a.natAbs d:=Nat.gcd_pos_of_pos_right _ hd;obtain⟨n1,hn⟩:=Nat.gcd_dvd_left a.natAbs d;obtain⟨d1,hd1⟩:=Nat.gcd_dvd_right a.natAbs d;generalize hgg:Nat.gcd a.natAbs d=g at *
 have e1:d/g=d1:=by rw[hd1,Nat.mul_div_cancel_left _ hg]
 have hd10:0<d1:=by rcases Nat.eq_zero_or_pos d1 with h | h;subst h;omega;exact h
 have hd1le:d1≤d:=by rw[←e1];exact Nat.div_le_self _ _
 have hn1:n1≤a.natAbs:=by rw[hn];exact Nat.le_mul_of_pos_left _ hg
 have hco:Nat.gcd n1 d1=1:=by
  have h:=hgg;rw[hn,hd1,Nat.gcd_mul_left] at h;exact Nat.eq_of_mul_eq_mul_left hg (by rw[h,Nat.mul_one])
 have ha:a=sg (decide (a<0)) n1*g:=by
  unfold sg;by_cases h:a<0
  ·rw[if_pos (decide_eq_true h)]
   have:(a.natAbs:Int)=(g:Int)*(n1:Int):=by rw[hn];simp
   rw[Int.neg_mul,Int.mul_comm,←this];omega
  ·rw[if_neg (by simpa using h)]
   have:(a.natAbs:Int)=(g:Int)*(n1:Int):=by rw[hn];simp
   rw[Int.mul_comm,←this];omega
 have hpos:a<0→0<n1:=by
  intro h;rcases Nat.eq_zero_or_pos n1 with h1 | h1
  ·rw[h1,Nat.mul_zero] at hn;omega
  ·exact h1
 refine⟨g,n1,d1,rfl,hg,Nat.le_of_dvd hd ⟨d1,hd1⟩,e1,hd1le,hd10,hn1,?_,hpos,?_⟩
 ·conv=>lhs;rw[ha]
  exact Int.mul_tdiv_cancel _ (by omega)
 ·have hs:(sg (decide (a<0)) n1).natAbs=n1:=by unfold sg;split <;> simp
  have hneg:decide (sg (decide (a<0)) n1<0)=decide (a<0):=by
   unfold sg;by_cases h:a<0
   ·have:=hpos h
    simp[h];try omega
   ·simp[h];try omega
  have h2:mkRat a d=mkRat (sg (decide (a<0)) n1) d1:=by
   rw[show d=g*d1 from hd1]
   conv=>lhs;rw[ha,Int.mul_comm]
   exact Rat.mkRat_mul_left (by omega)
  rw[h2,GF (by omega) (by rw[hs];exact hco),hneg,hs]
theorem Ec (a:Int) (d g n n1 d1:Nat) (neg:Bool) (w:World) (ha: -4000000000000000000≤a∧a≤4000000000000000000) (hd0:(0:Int)<d) (hd:(d:Int)≤4000000000000000000) (hmx:Hid (max a (-a)=(n:Int))) (hg:Nat.gcd n d=g) (hg0:(0:Int)<g) (hgl:(g:Int)≤4000000000000000000)
  (hq:a.tdiv (g:Int)=sg neg n1) (hn1:(n1:Int)≤4000000000000000000) (hp:neg=true→(0:Int)<n1) (hdq:wrap64 ((d:Int)/(g:Int))=(d1:Int)) (hd1:(d1:Int)≤4000000000000000000) (hd10:(0:Int)<d1):
  Calls Tryz.prog 35 #[.int .i64 a,.int .i64 d] w (kT (qL neg n1 d1) w):=by
 have GC:=hid (fun w=>NH n d w (by have:=hmx.out;omega) (by omega));rw[hg] at GC;clear hg;have DN:=hid (fun w=>Ys n1 w (by omega));have DD:=hid (fun w=>Ys d1 w (by omega));have hL1:=Yq (n:=n1) (by omega);have hL2:=Yq (n:=d1) (by omega)
 cases neg with
 | false=>
  have hq2:a.tdiv (g:Int)=(n1:Int):=hq;clear hq;clear hp;by_cases h1:(1:Int)<d1
  ·have HX:Hid (qL false n1 d1=decDigits n1++[47]++decDigits d1):=hid (by unfold qL;rw[if_neg (by omega:¬d1=1)];simp)
   go_enter Tryz.func35,Tryz.ntmps35
   go_wp2_with fail
   rw[hmx.out];refine(GC.out _).mono ?_;clear GC;rintro e w1 ⟨rfl,hB1⟩
   go_wp2_with (go_quiet (fail))
   have hB1':=below_drewN hB1 nq;rw[show max ((n1:Int)) (-(n1:Int))=n1 from by omega];refine(DN.out _).mono ?_;clear DN;rintro e w2 ⟨rfl,hB2⟩
   go_wp2_with fail
   refine(DD.out _).mono ?_;clear DD;rintro e w3 ⟨rfl,hB3⟩
   go_wp2
   go_ret;refine⟨?_,hB1'.trans ((hB2.mono hB1'.size).trans (hB3.mono (Nat.le_trans hB1'.size hB2.size)))⟩;rw[HX.out];simp[ByteArray.mk_append_mk]
  ·have HX:Hid (qL false n1 d1=decDigits n1):=hid (by unfold qL;rw[if_pos (by omega:d1=1)];simp)
   go_enter Tryz.func35,Tryz.ntmps35
   go_wp2_with fail
   rw[hmx.out];refine(GC.out _).mono ?_;clear GC;rintro e w1 ⟨rfl,hB1⟩
   go_wp2_with (go_quiet (fail))
   have hB1':=below_drewN hB1 nq;rw[show max ((n1:Int)) (-(n1:Int))=n1 from by omega];refine(DN.out _).mono ?_;clear DN;rintro e w2 ⟨rfl,hB2⟩
   go_wp2
   go_ret;refine⟨?_,hB1'.trans (hB2.mono hB1'.size)⟩;rw[HX.out];simp[ByteArray.mk_append_mk]
 | true=>
  have hq2:a.tdiv (g:Int) = -(n1:Int):=hq;clear hq;have hp2:=hp rfl;clear hp;by_cases h1:(1:Int)<d1
  ·have HX:Hid (qL true n1 d1=[45]++decDigits n1++[47]++decDigits d1):=hid (by unfold qL;rw[if_neg (by omega:¬d1=1)];simp)
   go_enter Tryz.func35,Tryz.ntmps35
   go_wp2_with fail
   rw[hmx.out];refine(GC.out _).mono ?_;clear GC;rintro e w1 ⟨rfl,hB1⟩
   go_wp2_with (go_quiet (fail))
   have hB1':=below_drewN hB1 nq;rw[show max (-(n1:Int)) ((n1:Int))=n1 from by omega];refine(DN.out _).mono ?_;clear DN;rintro e w2 ⟨rfl,hB2⟩
   go_wp2_with fail
   refine(DD.out _).mono ?_;clear DD;rintro e w3 ⟨rfl,hB3⟩
   go_wp2
   go_ret;refine⟨?_,hB1'.trans ((hB2.mono hB1'.size).trans (hB3.mono (Nat.le_trans hB1'.size hB2.size)))⟩;rw[HX.out];simp[ByteArray.mk_append_mk]
  ·have HX:Hid (qL true n1 d1=[45]++decDigits n1):=hid (by unfold qL;rw[if_pos (by omega:d1=1)];simp)
   go_enter Tryz.func35,Tryz.ntmps35
   go_wp2_with fail
   rw[hmx.out];refine(GC.out _).mono ?_;clear GC;rintro e w1 ⟨rfl,hB1⟩
   go_wp2_with (go_quiet (fail))
   have hB1':=below_drewN hB1 nq;rw[show max (-(n1:Int)) ((n1:Int))=n1 from by omega];refine(DN.out _).mono ?_;clear DN;rintro e w2 ⟨rfl,hB2⟩
   go_wp2
   go_ret;refine⟨?_,hB1'.trans (hB2.mono hB1'.size)⟩;rw[HX.out];simp[ByteArray.mk_append_mk]
theorem Ua (a:Int) (d:Nat) (w:World) (ha: -4000000000000000000≤a∧a≤4000000000000000000) (hd0:0<d) (hd:(d:Int)≤4000000000000000000):
  Calls Tryz.prog 35 #[.int .i64 a,.int .i64 d] w (kT (jg (mkRat a d)) w):=by
 obtain⟨g,n1,d1,h1,h2,h3,h4,h5,h6,h7,h8,h9,h10⟩:=ZL a d hd0;rw[h10]
 have e:((d:Int)/(g:Int))=(d1:Int):=by rw[←h4];rfl
 refine Ec a d g a.natAbs n1 d1 (decide (a<0)) w ha (by omega) hd (hid (by omega)) h1 (by omega) (by omega) h8 (by omega) (fun h=>by have:=h9 (of_decide_eq_true h);omega) ?_ (by omega) (by omega)
 rw[e];exact IntWalk.wrap64_in _ (by omega)
