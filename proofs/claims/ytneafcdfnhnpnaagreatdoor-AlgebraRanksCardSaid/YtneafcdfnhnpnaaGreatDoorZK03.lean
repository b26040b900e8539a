/- Plain mathematics of decimal digits. -/
import Derived.Test.YtneafcdfnhnpnaaGreatDoorZK02
import Derived.Lib.SmallJoins
set_option maxRecDepth 100000
set_option maxHeartbeats 4000000
namespace Go.Proofs.YtneafcdfnhnpnaaGreatDoor
open Go.Lib
def qH:Nat→Nat→List UInt8
 | 0,_=>[]
 | k+1,r=>qH k (r/10)++[UInt8.ofNat (48+r%10)]
theorem DQ (k r:Nat):(qH k r).length=k:=by
 induction k generalizing r with
 | zero=>rfl
 | succ k ih=>simp[qH,ih]
theorem Jq {u:Nat} (h:10≤u):decDigits u=decDigits (u/10)++[UInt8.ofNat (48+u%10)]:=by rw[decDigits,dif_neg (by omega)]
theorem UP (k q r:Nat) (hq:1≤q) (hr:r<10^k):decDigits (q*10^k+r)=decDigits q++qH k r:=by
 induction k generalizing r with
 | zero=>
  have:r=0:=by simpa using hr
  subst this;simp[qH]
 | succ k ih=>
  have h10:1≤10^k:=Nat.one_le_pow _ _ (by decide)
  have h1:q*10^(k+1)=q*10^k*10:=by rw[Nat.pow_succ,Nat.mul_assoc]
  have h2:1≤q*10^k:=Nat.mul_pos hq h10;rw[h1,Jq (by omega)];rw[Nat.pow_succ] at hr;rw[show (q*10^k*10+r)/10=q*10^k+r/10 from by omega,show (q*10^k*10+r)%10=r%10 from by omega,ih (r/10) (by omega)];simp[qH]
theorem DR (k:Nat):qH k 0=List.replicate k 48:=by
 induction k with
 | zero=>rfl
 | succ k ih=>rw[qH,show 0/10=0 from rfl,ih,List.replicate_succ'];rfl
theorem zC (k r:Nat) (hr:r<10^(k+1)):nDigits r≤k+1:=by
 induction k generalizing r with
 | zero=>rw[nDigits_small (by simpa using hr)];omega
 | succ k ih=>
  by_cases h:r<10
  ·rw[nDigits_small h];omega
  ·rw[nDigits_big h]
   have:=ih (r/10) (by rw[Nat.pow_succ] at hr;omega);omega
theorem DP (k r:Nat) (hr:r<10^(k+1)):qH (k+1) r=List.replicate (k+1-nDigits r) 48++decDigits r:=by
 induction k generalizing r with
 | zero=>
  have h:r<10:=by simpa using hr
  rw[nDigits_small h,decDigits_one h];simp[qH,Nat.mod_eq_of_lt h]
 | succ k ih=>
  by_cases h:r<10
  ·rw[nDigits_small h,decDigits_one h,qH,show r/10=0 from by omega,DR,Nat.mod_eq_of_lt h]
   congr 1
  ·rw[qH,ih (r/10) (by rw[Nat.pow_succ] at hr;omega),Jq (by omega:10≤r),nDigits_big h,←List.append_assoc]
   congr 3
   omega
theorem BX (b:UInt8) (c:Nat):repeatL [b] c=List.replicate c b:=by
 induction c with
 | zero=>rfl
 | succ c ih=>rw[repeatL,ih,List.replicate_succ];rfl
theorem UO (x:Nat) (h:10000000000000000000≤x):
  decDigits x=decDigits (x/10000000000000000000)++(List.replicate (19-nDigits (x%10000000000000000000)) 48++decDigits (x%10000000000000000000))∧1≤x/10000000000000000000∧nDigits (x%10000000000000000000)≤19:=by
 have h1:x=x/10000000000000000000*10^19+x%10000000000000000000:=by
  have:=Nat.div_add_mod x 10000000000000000000;omega
 have h2:x%10000000000000000000<10^19:=Nat.mod_lt _ (by decide);refine⟨?_,by omega,zC 18 _ h2⟩
 conv=>lhs;rw[h1]
 rw[UP 19 _ _ (by omega) h2,DP 18 _ h2]
theorem NY (x n:Nat) (h:x<WB^n):nDigits x≤20*n+1:=by
 apply zC;have h1:WB^n≤(10^20)^n:=Nat.pow_le_pow_left (by decide) n;rw[←Nat.pow_mul] at h1;have h2:10^(20*n)≤10^(20*n+1):=Nat.pow_le_pow_right (by decide) (by omega);omega
end Go.Proofs.YtneafcdfnhnpnaaGreatDoor
namespace Go.Proofs.YtneafcdfnhnpnaaGreatDoor
open Go.RowKit Go.Lib
theorem jl.digits {x:Nat} (h:jl x):nDigits x≤160000000000001:=by
 have:=NY x y9 h.big;have:=Q8;omega
theorem J3:10000000000000000000<WB:=by decide
theorem Ga (c:Nat) (w:World) (hc:c≤19):
  Calls Tryz.prog 233 #[.string ⟨#[48]⟩,.int .i64 c] w fun e w'=>e = .returned (.string ⟨(List.replicate c 48).toArray⟩)∧Below w.heap.size w w':=by
 have h:=Tryz.strings_Repeat ⟨#[48]⟩ c w (by omega) (by show 1*c≤_;omega)
 refine h.mono fun e w' ⟨h1,h2⟩=>⟨?_,h2⟩
 rw[h1]
 show Ending.returned (.string ⟨(repeatL [48] c).toArray⟩)=_
 rw[BX]
def QC (x y:Nat) (acc:List UInt8):Prop:=decDigits x=decDigits y++acc∧(y=0→acc=[])∧y≤x
theorem QC.step {x y:Nat} {acc:List UInt8} (h:QC x y acc) (hy:10000000000000000000≤y):
  QC x (y/10000000000000000000) (List.replicate (19-nDigits (y%10000000000000000000)) 48++decDigits (y%10000000000000000000)++acc):=by
 obtain⟨h1,h2,h3⟩:=h;obtain⟨d1,d2,d3⟩:=UO y hy;refine⟨by rw[h1,d1];simp,fun h=>by omega,?_⟩;exact Nat.le_trans (Nat.div_le_self _ _) h3
theorem GU (v:Value) (x:Nat) (w:World) (h:Nt w v x) (hf:jl x) (hG:jH w):
  Calls Tryz.prog 188 #[v] w fun e w'=>e = .returned (.string ⟨(decDigits x).toArray⟩)∧Below w.heap.size w w':=by
 obtain⟨A0,n0,c0,hv,hn0⟩:=h.size_;have hdig:=hf.digits;have Hh:=hid h;clear h;subst hv;have HF:=hid hf;clear hf;go_enter Tryz.func188,Tryz.ntmps188
 go_wp2
 go_loopg [0,3,4,5,6] x (fun g a d _ _ _ wr=>∃acc:List UInt8,Hid (Nt wr a g)∧d = .string ⟨acc.toArray⟩∧Hid (QC x g acc)∧Below w.heap.size w wr)
 case atStart=>exact⟨[],Hh,rfl,hid ⟨by simp,fun _=>rfl,Nat.le_refl _⟩,Below.refl _ _⟩
 case round=>
  obtain⟨acc,hN,rfl,hI,hB⟩:=hrel
  have hacc:acc.length≤160000000000001:=by
   have:=congrArg List.length hI.out.1;rw[List.length_append,decDigits_length] at this;omega
  have hGr:=hid (hG.below hB);by_cases hc:10000000000000000000≤gk
  ·have hst:=hid (hI.out.step hc)
   obtain⟨d1,d2,d3⟩:=UO gk hc;have hlt:gk/10000000000000000000<gk:=Nat.div_lt_self (by omega) (by decide);have hfit:=hid (HF.out.le hI.out.2.2);have hrw:gk%10000000000000000000<WB:=Nat.lt_trans (Nat.mod_lt _ (by decide)) J3;have hDiv:=hid (fun w h=>KJ u0 gk 10000000000000000000 w h (by decide) J3 hfit.out);have hFmt:=hid (fun w h=>Vo (gk%10000000000000000000) w hrw h);have hlen:(decDigits (gk%10000000000000000000)).length=nDigits (gk%10000000000000000000):=decDigits_length _;generalize gk%10000000000000000000=r at *;generalize gk/10000000000000000000=q at *;by_cases hw:gk<WB
   ·obtain⟨b,off,c1,hv1,hb1,hcell⟩:=hN.out.one_word (by omega) hw
    have hcI:(10000000000000000000:Int)≤(gk:Int):=by omega
    clear d1 hw hc;subst hv1
    go_wp2_with fail
    refine(hDiv.out _ hN.out).mono ?_;rintro e w1 ⟨q',rfl,hq,hB1⟩
    go_wp2_with fail
    refine(hFmt.out _ (hGr.out.below hB1)).mono ?_;rintro e w2 ⟨rfl,hB2⟩
    go_wp2_with fail
    rw[show (19:Int)-(nDigits r:Int)=((19-nDigits r:Nat):Int) from by omega];refine(Ga _ _ (by omega)).mono ?_;rintro e w3 ⟨rfl,hB3⟩
    go_wp2
    go_roundg q
    case measure=>exact hlt
    case rel=>
     refine⟨_,hid ((hq.below hB2).below hB3),?_,hst,hB.trans ((hB1.trans ((hB2.trans (hB3.mono hB2.size)).mono hB1.size)).mono hB.size)⟩;rw[←List.toArray_replicate,ByteArray.mk_append_mk,ByteArray.mk_append_mk]
   ·obtain⟨A1,n1,c1,hv1,hn1,hn2⟩:=hN.out.len_ge (Nat.not_lt.1 hw)
    clear d1 hw hc
    have hcI:(1:Int)<(n1:Int):=by omega
    subst hv1
    go_wp2_with fail
    refine(hDiv.out _ hN.out).mono ?_;rintro e w1 ⟨q',rfl,hq,hB1⟩
    go_wp2_with fail
    refine(hFmt.out _ (hGr.out.below hB1)).mono ?_;rintro e w2 ⟨rfl,hB2⟩
    go_wp2_with fail
    rw[show (19:Int)-(nDigits r:Int)=((19-nDigits r:Nat):Int) from by omega];refine(Ga _ _ (by omega)).mono ?_;rintro e w3 ⟨rfl,hB3⟩
    go_wp2
    go_roundg q
    case measure=>exact hlt
    case rel=>
     refine⟨_,hid ((hq.below hB2).below hB3),?_,hst,hB.trans ((hB1.trans ((hB2.trans (hB3.mono hB2.size)).mono hB1.size)).mono hB.size)⟩;rw[←List.toArray_replicate,ByteArray.mk_append_mk,ByteArray.mk_append_mk]
  ·by_cases h0:gk=0
   ·subst h0
    obtain⟨A1,c1,hv1⟩:=hN.out.zero_len
    have hfin:decDigits x=[48]:=by
     have e:=hI.out.1;have h48:decDigits 0=[48]:=decDigits_one (by omega);rw[hI.out.2.1 rfl,h48] at e;exact e
    have Hfin:=hid hfin;clear hfin;subst hv1
    go_wp2
    go_ret;exact⟨by rw[Hfin.out];rfl,hB⟩
   ·obtain⟨b,off,c1,hv1,hb1,hcell⟩:=hN.out.one_word (by omega) (by have:=J3;omega)
    have hFmt:=hid (fun w h=>Vo gk w (by have:=J3;omega) h)
    have hlen:(decDigits gk).length≤160000000000001:=by
     have:=congrArg List.length hI.out.1;rw[List.length_append,decDigits_length x] at this;omega
    have hcI:¬(10000000000000000000:Int)≤(gk:Int):=by omega
    have hd:decide ((10000000000000000000:Int)≤(gk:Int))=false:=by simpa using hcI
    subst hv1
    go_wp2_with fail
    refine(hFmt.out _ hGr.out).mono ?_;rintro e w1 ⟨rfl,hB1⟩
    go_wp2
    go_ret;refine⟨?_,hB.trans (hB1.mono hB.size)⟩;rw[hI.out.1,←ByteArray.mk_append_mk];rfl
end Go.Proofs.YtneafcdfnhnpnaaGreatDoor
namespace Go.Proofs.YtneafcdfnhnpnaaGreatDoor
open Go.Lib
def jW (l:List UInt8):Prop:=∀c∈l,48≤c.toNat∧c.toNat≤57
def yE:List UInt8→Nat→Nat
 | [],v=>v
 | c::r,v=>yE r (10*v+(c.toNat-48))
def jf (l:List UInt8):Nat:=yE l 0
theorem yY (v:Nat):yE [] v=v:=rfl
theorem zy (c:UInt8) (r:List UInt8) (v:Nat):yE (c::r) v=yE r (10*v+(c.toNat-48)):=rfl
theorem Sg (v:Nat) (a b:List UInt8):yE (a++b) v=yE b (yE a v):=by
 induction a generalizing v with
 | nil=>rfl
 | cons c r ih=>exact ih _
theorem VZ (v p d:Nat):(10*v+d)*p=v*(p*10)+d*p:=by
 rw[Nat.add_mul,Nat.mul_comm 10 v,Nat.mul_assoc,Nat.mul_comm 10 p]
theorem Sh (v:Nat) (l:List UInt8):yE l v=v*10^l.length+yE l 0:=by
 induction l generalizing v with
 | nil=>rw[yY,yY,List.length_nil,Nat.pow_zero,Nat.mul_one,Nat.add_zero]
 | cons c r ih=>
  rw[zy,zy,ih,ih (10*0+(c.toNat-48)),List.length_cons,Nat.pow_succ,VZ,VZ,Nat.zero_mul,Nat.zero_add,Nat.add_assoc]
theorem Jr (a b:List UInt8):jf (a++b)=jf a*10^b.length+jf b:=by
 unfold jf;rw[Sg,Sh]
theorem Jo {l:List UInt8} (h:jW l) (k:Nat):jW (l.take k):=fun c hc=>h c (List.mem_of_mem_take hc)
theorem Yg {l:List UInt8} (h:jW l) (k:Nat):jW (l.drop k):=fun c hc=>h c (List.mem_of_mem_drop hc)
theorem qG {l:List UInt8} (h:jW l):jf l<10^l.length:=by
 induction l with
 | nil=>rw[jf,yY,List.length_nil,Nat.pow_zero];exact Nat.zero_lt_one
 | cons c r ih=>
  have h1:=ih (fun x hx=>h x (by simp[hx]));have h2:=h c (by simp)
  have e:jf (c::r)=(c.toNat-48)*10^r.length+jf r:=by
   have:=Jr [c] r;rw[show jf [c]=c.toNat-48 from by rw[jf,zy,yY];omega] at this;exact this
  rw[e,List.length_cons,Nat.pow_succ];have:(c.toNat-48)*10^r.length≤9*10^r.length:=Nat.mul_le_mul_right _ (by omega);omega
theorem DX (M acc:Nat) (l:List UInt8) (h:jW l) (hM:9999999999999999999≤M) (hb:(acc+1)*10^l.length≤10000000000000000000):parseUintM M acc l = .ok (yE l acc):=by
 induction l generalizing acc with
 | nil=>rfl
 | cons c r ih=>
  have h2:=h c (by simp);have hp:1≤10^r.length:=Nat.one_le_pow _ _ (by decide);rw[List.length_cons,Nat.pow_succ] at hb
  have hs:(acc*10+(c.toNat-48)+1)*10^r.length≤10000000000000000000:=by
   refine Nat.le_trans (Nat.mul_le_mul_right _ (show acc*10+(c.toNat-48)+1≤(acc+1)*10 from by omega)) ?_;rw[Nat.mul_assoc,Nat.mul_comm 10];exact hb
  have ha:acc*10+(c.toNat-48)+1≤10000000000000000000:=Nat.le_trans (Nat.le_mul_of_pos_right _ hp) hs;unfold parseUintM;rw[if_pos h2,if_neg (by omega),if_neg (by omega),ih _ (fun x hx=>h x (by simp[hx])) hs];rw[zy,Nat.mul_comm 10 acc]
theorem DU (l:List UInt8) (h:jW l) (h0:l≠[]) (hl:l.length≤19):parseUintB 64 l = .ok (jf l):=by
 unfold parseUintB;rw[if_neg h0];refine DX _ 0 l h (by decide) ?_;have:10^l.length≤10^19:=Nat.pow_le_pow_right (by decide) hl;omega
end Go.Proofs.YtneafcdfnhnpnaaGreatDoor
namespace Go.Proofs.YtneafcdfnhnpnaaGreatDoor
open Go.RowKit Go.Lib Go.Joins
def zr (s rest:List UInt8) (n:Nat):Prop:=jf s=n*10^rest.length+jf rest∧(n=0∨rest.length%19=0)∧rest.length≤s.length∧jW rest
theorem zr.start {s:List UInt8} (h:jW s):zr s s 0:=⟨by omega,.inl rfl,Nat.le_refl _,h⟩
theorem zr.step {s rest:List UInt8} {n:Nat} (h:zr s rest n) (h0:0<rest.length):
  zr s (rest.drop ((rest.length-1)%19+1)) (n*10000000000000000000+jf (rest.take ((rest.length-1)%19+1)))∧jf (rest.take ((rest.length-1)%19+1))<10000000000000000000:=by
 obtain⟨h1,h2,h3,h4⟩:=h;generalize hk:(rest.length-1)%19+1=k
 have hk1:k≤rest.length:=by have:=Nat.mod_le (rest.length-1) 19;omega
 have hk2:k≤19:=by have:=Nat.mod_lt (rest.length-1) (show 0<19 by decide);omega
 have hlen:(rest.drop k).length=rest.length-k:=by simp
 have htl:(rest.take k).length=k:=by simp;omega
 have hr:jf rest=jf (rest.take k)*10^(rest.length-k)+jf (rest.drop k):=by
  have:=Jr (rest.take k) (rest.drop k);rw[List.take_append_drop,hlen] at this;exact this
 have hlt:jf (rest.take k)<10^k:=by have:=qG (Jo h4 k);rwa [htl] at this
 have hk19:n*10000000000000000000=n*10^k:=by
  rcases h2 with rfl | h2
  ·simp
  ·have:k=19:=by omega
   subst this;rfl
 have hsplit:n*10^rest.length=n*10^k*10^(rest.length-k):=by rw[Nat.mul_assoc,←Nat.pow_add];congr 2;omega
 have he:jf s=(n*10^k+jf (rest.take k))*10^(rest.length-k)+jf (rest.drop k):=by
  rw[h1,hr,hsplit,Nat.add_mul];omega
 refine⟨⟨by rw[hk19,hlen];exact he,.inr (by rw[hlen];omega),by omega,Yg h4 k⟩,?_⟩;have:10^k≤10^19:=Nat.pow_le_pow_right (by decide) hk2;omega
theorem zr.fits {s rest:List UInt8} {n:Nat} (h:zr s rest n) (hs:jW s) (hl:s.length≤1000000) (hd:ql s.length):jl n:=by
 have h1:=qG hs;have h2:n*1≤n*10^rest.length:=Nat.mul_le_mul_left _ (Nat.one_le_pow _ _ (by decide));have h3:=h.1;exact jl.of_pow (k:=s.length) (by omega) hd (by omega)
theorem E6 (l:List UInt8) (k:Nat):(ByteArray.mk l.toArray).extract 0 k=⟨(l.take k).toArray⟩:=by
 apply ByteArray.ext
 simp
theorem E4 (l:List UInt8) (k n:Nat) (h:l.length≤n):(ByteArray.mk l.toArray).extract k n=⟨(l.drop k).toArray⟩:=by
 apply ByteArray.ext
 simp
 rw[List.take_of_length_le (by simp;omega)]
theorem DS (l:List UInt8) (w:World) (h:jW l) (h0:0<l.length) (hl:l.length≤19):
  Calls Tryz.prog 219 #[.string ⟨l.toArray⟩,.int .i64 10,.int .i64 64] w fun e w'=>e = .returned (.tuple #[.int .u64 (jf l:Nat),.nilIface])∧Below w.heap.size w w':=by
 have hs:(ByteArray.mk l.toArray).size=l.length:=by simp[ByteArray.size]
 refine(Tryz.strconv_ParseUint_10_at64_ok ⟨l.toArray⟩ (by rw[hs];omega) (jf l) (by simpa using DU l h (by intro e;subst e;simp at h0) hl) w).mono fun e w' ⟨h1,h2⟩=>⟨h1,?_⟩
 rcases h2 with rfl | rfl
 ·exact Below.refl _ _
 ·exact below_bytesWorld _ _ _ _ (Nat.le_refl _)
theorem zd (s:List UInt8) (w:World) (h:jW s) (hl:s.length≤1000000) (hd:ql s.length):
  Calls Tryz.prog 171 #[.string ⟨s.toArray⟩] w fun e w'=>∃v,e = .returned v∧Nt w' v (jf s)∧Below w.heap.size w w':=by
 have hst:=hid (zr.start h);have H:=hid h;clear h;go_enter Tryz.func171,Tryz.ntmps171
 go_wp2
 go_loopg [0,3,4,5,6] s.length (fun g d v _ _ _ wr=>∃(rest:List UInt8) (n:Nat),g=rest.length∧d = .string ⟨rest.toArray⟩∧Hid (Nt wr v n)∧Hid (zr s rest n)∧Below w.heap.size w wr)
 case atStart=>exact⟨s,0,rfl,rfl,hid Nt.nil,hst,Below.refl _ _⟩
 case round=>
  obtain⟨rest,n,rfl,rfl,hN,hI,hB⟩:=hrel;have hrl:rest.length≤s.length:=hI.out.2.2.1;by_cases h0:0<rest.length
  ·obtain⟨hst,hwl⟩:=hI.out.step h0
   have hkl:(rest.length-1)%19+1≤rest.length:=by have:=Nat.mod_le (rest.length-1) 19;omega
   have hpc:=fun w=>DS (rest.take ((rest.length-1)%19+1)) w (Jo hI.out.2.2.2 _) (by rw[List.length_take];omega) (by rw[List.length_take];have:=Nat.mod_lt (rest.length-1) (show 0<19 by decide);omega)
   have hfit:=hid (hI.out.fits H.out hl hd)
   have hdl:(rest.drop ((rest.length-1)%19+1)).length<rest.length:=by rw[List.length_drop];omega
   rw[←E6] at hpc;have Hst:=hid hst;have HPC:=hid hpc;clear hst hpc;have hww:jf (rest.take ((rest.length-1)%19+1))<WB:=Nat.lt_trans hwl J3;have Hdl:=hid hdl;clear hdl
   go_wp2_with fail
   refine(HPC.out _).mono ?_;rintro e w1 ⟨rfl,hB1⟩
   go_wp2_with fail
   refine(GW _ n 10000000000000000000 _ _ (hN.out.below hB1) J3 hww hfit.out).mono ?_;rintro e w2 ⟨v2,rfl,hv2,hB2⟩
   go_wp2
   go_roundg ((rest.drop ((rest.length-1)%19+1)).length)
   case measure=>exact Hdl.out
   case rel=>exact⟨_,_,rfl,by rw[E4 _ _ _ (Nat.le_refl _)],hid hv2,Hst,hB.trans ((hB1.trans (hB2.mono hB1.size)).mono hB.size)⟩
  ·have h00:rest.length=0:=by omega
   have hr:rest=[]:=List.length_eq_zero_iff.1 h00;subst hr
   have hval:jf s=n:=by have:=hI.out.1;simpa [jf,yY] using this
   have Hval:=hid hval;clear hval
   go_wp2
   go_ret;exact⟨_,rfl,by rw[Hval.out];exact hN.out,hB⟩
end Go.Proofs.YtneafcdfnhnpnaaGreatDoor
namespace Go.Proofs.YtneafcdfnhnpnaaGreatDoor
open Go.RowKit Go.Lib
def xc (r:Int):Bool:=decide (48≤r∧r≤57)
theorem Jv (r:Int) (w:World):Calls Tryz.prog 123 #[.int .i32 r] w fun e w'=>e = .returned (.bool (xc r))∧w=w':=by
 by_cases h1:48≤r
 ·by_cases h2:r≤57
  ·have hd:xc r=true:=by simp[xc];omega
   have Hd:=hid hd;clear hd;go_enter Tryz.func123,Tryz.ntmps123
   go_wp2
   go_ret;exact⟨by rw[Hd.out];rfl,rfl⟩
  ·have hd:xc r=false:=by simp[xc];omega
   have Hd:=hid hd;clear hd
   have hd2:decide (r≤57)=false:=by simpa using h2
   go_enter Tryz.func123,Tryz.ntmps123
   go_wp2
   go_ret;exact⟨by rw[Hd.out];rfl,rfl⟩
 ·have hd:xc r=false:=by simp[xc];omega
  have Hd:=hid hd;clear hd
  have hd2:decide (48≤r)=false:=by simpa using h1
  go_enter Tryz.func123,Tryz.ntmps123
  go_wp2
  go_ret;exact⟨by rw[Hd.out];rfl,rfl⟩
def jD (l:List UInt8):Prop:=jW l∧(l=[48]∨(l≠[]∧l.head? ≠some 48))
def Dm (s:ByteArray) (w:World) (e:Ending) (w':World):Prop:=∃b:Bool,e = .returned (.bool b)∧(b=true↔jD s.data.toList)∧Below w.heap.size w w'
theorem xm (s:ByteArray) (k:Nat) (h:k<s.size):s.data.toList[k]? =some (s[k]):=by
 have:k<s.data.toList.length:=by simpa using h
 rw[List.getElem?_eq_getElem this];simp;rfl
theorem VB (s:ByteArray) (w:World) (hs:s.size≤9223372036854775807):
  Calls Tryz.prog 170 #[.string s] w (Dm s w):=by
 go_enter Tryz.func170,Tryz.ntmps170
 go_wp2
 go_loopw [4,7] (fun _ _ wr=>∃pos:Nat,wr=w.iter s pos∧pos≤s.size∧Hid (jW (s.data.toList.take pos))) (fun _ _ wr=>s.size-wr.iterPos w.heap.size)
 case atStart=>exact⟨0,rfl,by omega,hid (fun c hc=>by simp at hc)⟩
 case round=>
  obtain⟨pos,rfl,hp,hd⟩:=hrel;by_cases hlt:pos<s.size
  ·by_cases hasc:(s[pos]).toNat<128
   ·have hnx:=fun ty=>run_next_ascii (P:=Tryz.prog) w s pos ty hlt hasc
    by_cases hdg:xc ((s[pos]).toNat:Int)=true
    ·go_wp2_with (go_at_call 123;refine(Jv _ _).mono ?_;rintro e w' ⟨rfl,rfl⟩;rw[hdg])
     refine⟨⟨pos+1,rfl,by omega,hid ?_⟩,by rw[World.iterPos_iter,World.iterPos_iter];omega⟩;intro c hc;rw[List.take_add_one,xm s pos hlt] at hc;rcases List.mem_append.1 hc with h1 | h1
     ·exact hd.out c h1
     ·have hcc:c=s[pos]:=by simpa using h1
      subst hcc;have:=of_decide_eq_true hdg;omega
    ·have hdg':xc ((s[pos]).toNat:Int)=false:=by simpa using hdg
     have hno:¬jD s.data.toList:=by
      intro hn;have:=hn.1 (s[pos]) (List.mem_of_getElem? (xm s pos hlt));have h2:=of_decide_eq_false hdg';omega
     have Hno:=hid hno;clear hno hdg
     go_wp2_with (go_at_call 123;refine(Jv _ _).mono ?_;rintro e w' ⟨rfl,rfl⟩;rw[hdg'])
     go_ret;exact⟨false,rfl,by simp;exact Hno.out,(Below.refl _ _).alloc (Nat.le_refl _) _⟩
   ·have hnx:=fun ty=>run_next_any (P:=Tryz.prog) w s pos ty hlt
    obtain⟨hr1,hr2⟩:=decode_high s pos hlt (by omega)
    have hdg':xc ((Utf8.decode s pos).1:Int)=false:=by unfold xc;simp;omega
    have hno:¬jD s.data.toList:=by
     intro hn;have:=hn.1 (s[pos]) (List.mem_of_getElem? (xm s pos hlt));omega
    have Hno:=hid hno;clear hno hasc;generalize Utf8.decode s pos=dd at *
    go_wp2_with (go_at_call 123;refine(Jv _ _).mono ?_;rintro e w' ⟨rfl,rfl⟩;rw[hdg'])
    go_ret;exact⟨false,rfl,by simp;exact Hno.out,(Below.refl _ _).alloc (Nat.le_refl _) _⟩
  ·have hnx:=fun ty=>run_next_end (P:=Tryz.prog) w s pos ty hlt
   have hall:jW s.data.toList:=by
    have:=hd.out
    rwa [List.take_of_length_le (by simp;omega)] at this
   have Hall:=hid hall;clear hall hd;have htl:s.toList=s.data.toList:=ByteArray.toList_eq s;have Htl:=hid htl;clear htl;by_cases h1:s.toList=[48]
   ·have hnum:jD s.data.toList:=⟨Hall.out,.inl (by rw[←Htl.out];exact h1)⟩
    have Hnum:=hid hnum;clear hnum
    go_wp2
    go_ret;exact⟨true,rfl,by simp;exact Hnum.out,(Below.refl _ _).alloc (Nat.le_refl _) _⟩
   ·by_cases h2:s.toList=[]
    ·have hno:¬jD s.data.toList:=by
      rw[←Htl.out,h2];rintro ⟨_,h3 | h3⟩
      ·cases h3
      ·exact h3.1 rfl
     have Hno:=hid hno;clear hno
     go_wp2
     go_ret;exact⟨false,rfl,by simp;exact Hno.out,(Below.refl _ _).alloc (Nat.le_refl _) _⟩
    ·have h0:0<s.size:=by
      rcases Nat.eq_zero_or_pos s.size with h3 | h3
      ·exfalso;apply h2;rw[Htl.out];exact List.length_eq_zero_iff.1 (by simpa using h3)
      ·exact h3
     have hhd:s.data.toList.head? =some s[0]:=by rw[List.head?_eq_getElem?];exact xm s 0 h0
     have hb1:(s.toList==[48])=false:=by simpa using h1
     have hb2:s.toList.isEmpty=false:=by simpa using h2
     by_cases h4:(s[0]).toNat=48
     ·have hno:¬jD s.data.toList:=by
       rintro ⟨_,h3 | h3⟩
       ·exact h1 (by rw[Htl.out];exact h3)
       ·apply h3.2;rw[hhd];congr 1;exact UInt8.toNat_inj.1 h4
      have Hno:=hid hno;have H4:=hid h4
      have hb3:(((s[0]).toNat:Int) != 48)=false:=by rw[h4];rfl
      clear hno h4 hhd h1 h2
      go_wp2
      go_ret;exact⟨false,rfl,by simp;exact Hno.out,(Below.refl _ _).alloc (Nat.le_refl _) _⟩
     ·have hyes:jD s.data.toList:=by
       refine⟨Hall.out,.inr ⟨by rw[←Htl.out];exact h2,?_⟩⟩;rw[hhd];intro e;apply h4;rw[Option.some.inj e];rfl
      have Hyes:=hid hyes
      have hb3:(((s[0]).toNat:Int) != 48)=true:=by simpa using (by omega:¬((s[0]).toNat:Int)=48)
      clear hyes h4 hhd h1 h2
      go_wp2
      go_ret;exact⟨true,rfl,by simp;exact Hyes.out,(Below.refl _ _).alloc (Nat.le_refl _) _⟩
def Rt (w:World) (v:Value) (q:Rat):Prop:=∃nv dv,v = .agg #[.bool (decide (q.num<0)),nv,dv]∧Nt w nv q.num.natAbs∧Nt w dv q.den
theorem Rt.below {w w':World} {v:Value} {q:Rat} (h:Rt w v q) (hb:Below w.heap.size w w'):Rt w' v q:=by
 obtain⟨nv,dv,hv,h1,h2⟩:=h;exact⟨nv,dv,hv,h1.below hb,h2.below hb⟩
def jV (neg:Bool) (n d:Nat):Rat:=if neg then mkRat (-(n:Int)) d else mkRat n d
theorem Kb {n:Int} {d:Nat} (hd:d≠0) (hc:Nat.gcd n.natAbs d=1):(mkRat n d).num=n∧(mkRat n d).den=d:=by
 rw[←Rat.mk_eq_mkRat n d hd hc];exact⟨rfl,rfl⟩
theorem Rt.mk_ {w:World} {neg:Bool} {nv dv:Value} {n d:Nat} (hd:d≠0) (hc:Nat.gcd n d=1) (hn:neg=true→n≠0) (h1:Nt w nv n) (h2:Nt w dv d):
  Rt w (.agg #[.bool neg,nv,dv]) (jV neg n d):=by
 unfold jV
 cases neg with
 | false=>
  obtain⟨e1,e2⟩:=Kb (n:=(n:Int)) hd (by simpa using hc);refine⟨nv,dv,?_,?_,?_⟩
  ·simp only[Bool.false_eq_true,if_false,e1]
   rw[show decide ((n:Int)<0)=false from by simp]
  ·simp only[Bool.false_eq_true,if_false,e1];simpa using h1
  ·simp only[Bool.false_eq_true,if_false,e2];exact h2
 | true=>
  obtain⟨e1,e2⟩:=Kb (n:=-(n:Int)) hd (by simpa using hc);have:=hn rfl;refine⟨nv,dv,?_,?_,?_⟩
  ·simp only[if_true,e1]
   rw[show decide (-(n:Int)<0)=true from by simp;omega]
  ·simp only[if_true,e1];simpa using h1
  ·simp only[if_true,e2];exact h2
theorem Rt.open_ {w:World} {v:Value} {q:Rat} (h:Rt w v q):∃neg nv dv n d,v = .agg #[.bool neg,nv,dv]∧Nt w nv n∧Nt w dv d∧d≠0∧Nat.gcd n d=1∧(neg=true→n≠0)∧q=jV neg n d∧neg=decide (q.num<0)∧n=q.num.natAbs∧d=q.den:=by
 obtain⟨nv,dv,hv,h1,h2⟩:=h;refine⟨_,nv,dv,_,_,hv,h1,h2,q.den_nz,q.reduced,?_,?_,rfl,rfl,rfl⟩
 ·intro hn;have:=of_decide_eq_true hn;omega
 ·unfold jV
  by_cases hq:q.num<0
  ·rw[if_pos (by simpa using hq),show -(q.num.natAbs:Int)=q.num from by omega];exact(Rat.mkRat_self q).symm
  ·rw[if_neg (by simpa using hq),show (q.num.natAbs:Int)=q.num from by omega];exact(Rat.mkRat_self q).symm
theorem kU (l dg:List UInt8) (neg:Bool) (w:World) (h1:hasPrefix l [45]=neg) (h2:trimPrefix l [45]=dg):
  Calls Tryz.prog 168 #[.string ⟨l.toArray⟩,.string ⟨#[45]⟩] w fun e w'=>e = .returned (.tuple #[.string ⟨dg.toArray⟩,.bool neg])∧w=w':=by
 refine(Tryz.strings_CutPrefix ⟨l.toArray⟩ ⟨#[45]⟩ w).mono fun e w' ⟨h3,h4⟩=>⟨?_,h4.symm⟩
 rw[h3,←h1,←h2]
theorem kV (l a b:List UInt8) (f:Bool) (w:World) (h:cut l [47]=(a,b,f)) (hl:l.length<4294967281) (hG:jH w):
  Calls Tryz.prog 169 #[.string ⟨l.toArray⟩,.string ⟨#[47]⟩] w fun e w'=>e = .returned (.tuple #[.string ⟨a.toArray⟩,.string ⟨b.toArray⟩,.bool f]) ∧ ∃n,w'=w.drewN n:=by
 obtain⟨_,m,_,hm⟩:=hG;have:=Tryz.strings_Cut ⟨l.toArray⟩ ⟨#[47]⟩ m w (by simpa [ByteArray.size] using hl) hm;simpa [h] using this
theorem kv (l:List UInt8) (w:World) (h:jD l) (hl:l.length<4294967281):
  Calls Tryz.prog 170 #[.string ⟨l.toArray⟩] w fun e w'=>e = .returned (.bool true)∧Below w.heap.size w w':=by
 refine(VB ⟨l.toArray⟩ w (by simp[ByteArray.size];omega)).mono ?_;rintro e w' ⟨b,rfl,hb,hB⟩;exact⟨by rw[hb.2 (by simpa using h)],hB⟩
theorem J9 (l:List UInt8) (w:World) (h:¬jD l) (hl:l.length<4294967281):
  Calls Tryz.prog 170 #[.string ⟨l.toArray⟩] w fun e w'=>e = .returned (.bool false)∧Below w.heap.size w w':=by
 refine(VB ⟨l.toArray⟩ w (by simp[ByteArray.size];omega)).mono ?_;rintro e w' ⟨b,rfl,hb,hB⟩;refine⟨?_,hB⟩
 cases b with
 | false=>rfl
 | true=>exact absurd (by simpa using hb.1 rfl) h
theorem ja.three {w:World} {g:Nat} {t:TypeId} {a b c:Value} (h:ja w g t [a,b,c]):
  w.cell? ⟨g,0,none⟩=some a∧w.cell? ⟨g,1,none⟩=some b∧w.cell? ⟨g,2,none⟩=some c∧w.frozen? ⟨g,0,none⟩=false∧w.frozen? ⟨g,1,none⟩=false∧w.frozen? ⟨g,2,none⟩=false:=
 ⟨h.cell 0,h.cell 1,h.cell 2,h.free 0,h.free 1,h.free 2⟩
def kf (c:Value):Prop:=∀k n,c ≠ .int k n
theorem js (b:Bool):kf (.bool b):=by intro k n h;cases h
theorem jq (A:Option Addr) (n c:Nat):kf (.slice A n c):=by intro k n h;cases h
theorem Nt.noInt {w:World} {v:Value} {x:Nat} (h:Nt w v x):kf v:=by
 obtain⟨A,n,c,rfl,_⟩:=h.size_;exact jq _ _ _
theorem Nt.put {w:World} {v:Value} {x g i:Nat} {t:TypeId} {cs:List Value} (h:Nt w v x) (hO:ja w g t cs) (hc:∀c∈cs,kf c) (u:Value):Nt (w.setCell ⟨g,i,none⟩ u) v x:=by
 obtain⟨ws,h1,h2,h3,A,n,c,hv,h4,h5,h6,h7⟩:=h;refine⟨ws,h1,h2,h3,A,n,c,hv,h4,h5,h6,fun hn=> ?_⟩;obtain⟨b,off,hA,hb,hcell⟩:=h7 hn;refine⟨b,off,hA,by simpa using hb,fun j u hu=> ?_⟩;have hj:=hcell j u hu
 have hne:b≠g:=by
  rintro rfl;rw[hO.cell] at hj;have hm:=hc u (List.mem_of_getElem? hj);obtain⟨y,_,hy⟩:=List.mem_map.1 (List.mem_of_getElem? hu);exact hm _ _ hy.symm
 rw[World.cell?_setCell_other _ _ _ _ (by intro e;injection e with e1;exact hne e1.symm)];exact hj
theorem Nt.put3 {w:World} {v:Value} {x g:Nat} {t:TypeId} {a b c a' b' c':Value} (h:Nt w v x) (hO:ja w g t [a,b,c]) (ha:kf a) (hb:kf b) (hc:kf c) (ha':kf a') (hb':kf b'):
  Nt (((w.setCell ⟨g,0,none⟩ a').setCell ⟨g,1,none⟩ b').setCell ⟨g,2,none⟩ c') v x:=by
 have h1:=h.put (i:=0) hO (by simp only[List.mem_cons,List.not_mem_nil,or_false];rintro c (rfl | rfl | rfl) <;> assumption) a';have hO1:=hO.put 0 a';have h2:=h1.put (i:=1) hO1 (by simp only[List.set,List.mem_cons,List.not_mem_nil,or_false];rintro c (rfl | rfl | rfl) <;> assumption) b';have hO2:=hO1.put 1 b';exact h2.put (i:=2) hO2 (by simp only[List.set,List.mem_cons,List.not_mem_nil,or_false];rintro c (rfl | rfl | rfl) <;> assumption) c'
theorem Rt.put3 {w:World} {v:Value} {q:Rat} {g:Nat} {t:TypeId} {a b c a' b' c':Value} (h:Rt w v q) (hO:ja w g t [a,b,c]) (ha:kf a) (hb:kf b) (hc:kf c) (ha':kf a') (hb':kf b'):
  Rt (((w.setCell ⟨g,0,none⟩ a').setCell ⟨g,1,none⟩ b').setCell ⟨g,2,none⟩ c') v q:=by
 obtain⟨nv,dv,hv,h1,h2⟩:=h;exact⟨nv,dv,hv,h1.put3 hO ha hb hc ha' hb',h2.put3 hO ha hb hc ha' hb'⟩
theorem Nt.one (w:World) (t:TypeId):Nt (w.alloc (.cells #[.int .u64 1] t)) (.slice (some ⟨w.heap.size,0,none⟩) 1 1) 1:=
 ⟨[1],rfl,H7.2 (by decide),rfl,Sl.lit w t #[.int .u64 1] 1 rfl (by omega)⟩
def jY:Value:= .agg #[.bool false,.slice none 0 0,.slice none 0 0]
