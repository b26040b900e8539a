/- Contract: the rank of a permutation. -/
import Derived.Test.YtneafcdfnhnpnaaGreatDoorZD13
import Derived.Test.YtneafcdfnhnpnaaGreatDoorZD07
set_option maxRecDepth 100000
set_option maxHeartbeats 2000000
namespace Go.Proofs.YtneafcdfnhnpnaaGreatDoor
open Go.RowKit
def xu (p:List Int) (i m:Nat):Nat:=(((p.drop (i+1)).take m).filter fun y=>decide (y<p[i]?.getD 0)).length
theorem Xd (p:List Int) (i m:Nat):xu p i m≤m:=by
 unfold xu;refine Nat.le_trans (List.length_filter_le _ _) ?_;rw[List.length_take];omega
theorem Dz (p:List Int) (i m:Nat) (h:i+1+m<p.length):xu p i (m+1)=xu p i m+(if p[i+1+m]?.getD 0<p[i]?.getD 0 then 1 else 0):=by
 unfold xu;rw[XG _ m (by rw[List.length_drop];omega),List.filter_append,List.length_append,List.getElem?_drop]
 congr 1
 by_cases hy:p[i+1+m]?.getD 0<p[i]?.getD 0 <;> simp[hy]
def xj (p:List Int):Nat→Nat
 | 0=>0
 | k+1=>xj p k*(p.length-k)+xu p k (p.length-k-1)
theorem WO (p:List Int) (hp:p.length≤256) (k:Nat):xj p k<10^(3*k):=by
 induction k with
 | zero=>simp[xj]
 | succ k ih=>
  have h1:=Xd p k (p.length-k-1);have h2:xj p k*(p.length-k)≤xj p k*256:=Nat.mul_le_mul_left _ (by omega)
  have h3:10^(3*(k+1))=10^(3*k)*1000:=by rw[Nat.mul_add,Nat.pow_add]
  show xj p k*(p.length-k)+xu p k (p.length-k-1)<_
  rw[h3];omega
theorem BS (n:Nat):(j4 false n 1).num.natAbs≤n:=by
 obtain⟨e1,e2⟩:=J7 (n:=(n:Int)) (d:=1) (by decide) (by simp);unfold j4;simp only[Bool.false_eq_true,if_false];rw[e1];omega
theorem BR (n:Nat):(j4 false n 1).den=1:=by
 obtain⟨e1,e2⟩:=J7 (n:=(n:Int)) (d:=1) (by decide) (by simp);unfold j4;simp only[Bool.false_eq_true,if_false];exact e2
def Zr (p:List Int) (w:World) (e:Ending) (w':World):Prop:=
 (if kh p=0 then e=qS (j4 false (xj p p.length) 1) else e = .returned (.tuple #[.string ⟨#[]⟩,.int .i64 (kh p)]))∧Below w.heap.size w w'
theorem Ee (v:Value) (p:List Int) (w:World) (hv:Sl w 1 v (je p)) (hG:jN w) (hD:qt (3*p.length)):
  Calls Tryz.prog 58 #[v] w (Zr p w):=by
 obtain⟨A,c,rfl,hc1,hc2⟩:=hv.form;simp only[kx] at hc1 hv ⊢;have HD:=Lib.hid hD;clear hD;have CP:=Lib.hid (fun W h=>Qs (.slice A p.length c) p W h);by_cases he:kh p=0
 ·have hPl:p.length≤256:=by have:=he;unfold kh at this;split at this;omega;split at this;omega;omega
  have He:=Lib.hid he;clear he;go_enter Tryz.func58,Tryz.ntmps58
  go_wp2_with fail
  refine(CP.out _ hv).mono ?_;rintro e w1 ⟨rfl,hB1⟩;rw[He.out]
  go_wp2_with fail
  go_loopg [5,6,7,8,10,18] p.length (fun g r _ _ _ _ i wr=>∃(k:Nat),k+g=p.length∧i = .int .i64 k∧Hid (Nt wr r (xj p k))∧Below w.heap.size w wr)
  case atStart=>exact⟨0,by omega,rfl,Lib.hid Nt.nil,hB1⟩
  case round=>
   clear hB1;obtain⟨k,hk,rfl,hN,hB⟩:=hrel
   cases gk with
   | zero=>
    have hkn:k=p.length:=by omega
    rw[hkn] at hN;have hlt:=WO p hPl p.length;have hfit:=Lib.hid (jl.of_pow hlt HD.out (by omega));clear hlt hk;subst hkn;obtain⟨A2,rn,rc,rfl,_⟩:=hN.out.size_;have hone:=Nt.one wr 148;have hN1:=Lib.hid (Rt.mk_ (neg:=false) (by decide) (by simp) (by simp) (hN.out.below ((Below.refl _ _).alloc (Nat.le_refl _) (.cells #[.int .u64 1] 148))) hone);have hBw:=hB.alloc hB.size (.cells #[.int .u64 1] 148);have hGw:=hG.below hBw;clear hone
    go_wp2_with fail
    refine(XP _ _ _ hN1.out (jl.le hfit.out (BS _)) (jl.small (by rw[BR];decide)) hGw).mono ?_;rintro e w4 ⟨he,hB4⟩;have hBt:=hBw.trans (hB4.mono hBw.size)
    have Hif:Hid (∀e,e=qS (j4 false (xj p p.length) 1)→Zr p w e w4):=fun e he=>⟨by rw[if_pos He.out];exact he,hBt⟩
    obtain⟨s,c,hs⟩:=Mt (j4 false (xj p p.length) 1);rw[hs] at he Hif;subst he;clear hs
    go_wp2
    go_ret2;exact Hif.out _ rfl
   | succ g=>
    have hlt:k<p.length:=by omega
    obtain⟨b1,off1,rfl,hbb1,hcell1⟩:=hv.at_ (k:=k) (by rw[kx];omega);have hck1:=(hB.cell (p:=⟨b1,off1+k,none⟩) hbb1).trans ((hcell1 k (by rw[kx];omega)).trans (kA p k hlt));have HC:=Lib.hid (fun (wx:World) (j:Nat) (hb:Below w.heap.size w wx) (hj:j<p.length)=>(hb.cell (p:=⟨b1,off1+j,none⟩) hbb1).trans ((hcell1 j (by rw[kx];omega)).trans (kA p j hj)));have Hs:=Lib.hid (fun m h=>Dz p k m h);have Hk:Hid (k+(g+1)=p.length):=Lib.hid hk;have TP:=Lib.hid (fun u wx (h:Nt wx u (xj p k))=>H6 u _ (p.length-k) (xu p k (p.length-k-1)) wx h (by unfold WB;omega) (by have:=Xd p k (p.length-k-1);unfold WB;omega) (jl.of_pow (WO p hPl k) (HD.out.le (by omega)) (by omega)))
    have hl1:(p.length:Int)-((k:Int)+1)=((p.length-k-1:Nat):Int):=by omega
    clear hcell1;obtain⟨A2,rn,rc,rfl,_⟩:=hN.out.size_;generalize hx:p[k]?.getD 0=x at *
    have hl2:(p.length:Int)-(k:Int)=((p.length-k:Nat):Int):=by omega
    have HX:Hid (p[k]?.getD 0=x):=Lib.hid hx;clear hx hv hl1 hk;rcases Decidable.em (c=k+1) with rfl | hcc
    all_goals (
     go_wp2_with fail
     go_loopg [8,10,28] (p.length-k-1) (fun h l _ i wx=>∃m:Nat,m+h=p.length-k-1∧l = .int .i64 (xu p k m)∧i = .int .i64 m∧Hid (Nt wx (.slice A2 rn rc) (xj p k))∧Below w.heap.size w wx)
     case atStart=>exact⟨0,by omega,by simp[xu],rfl,hN,hB⟩
     case round=>
      clear hN hB hck1;obtain⟨m,hm,rfl,rfl,hNx,hBx⟩:=hrel
      cases gk with
      | zero=>
       have hmm:m=p.length-k-1:=by omega
       have hin:¬((m:Int)<((p.length-(k+1):Nat):Int)):=by omega
       have TPx:=Lib.hid (TP.out _ _ hNx.out);rw[←hmm] at TPx
       have hll:xu p k m≤256:=by have:=Xd p k m;omega
       have Hst:Hid (xj p (k+1)=xj p k*(p.length-k)+xu p k m):=Lib.hid (by rw[hmm];rfl)
       have hpk:p.length-k≤256:=by omega
       clear hm hmm;generalize xu p k m=lu at *
       go_wp2_with (go_at_call 138;refine TPx.out.mono ?_;rintro e w5 ⟨u,rfl,hNu,hB5⟩;rw[←Hst.out] at hNu;have HNu:=Lib.hid hNu;clear hNu)
       go_roundg g
       case rel=>exact⟨k+1,by have:=Hk.out;omega,by go_num,HNu,hBx.trans (hB5.mono hBx.size)⟩
       case measure=>omega
      | succ h=>
       have hin:((m:Int)<((p.length-(k+1):Nat):Int)):=by omega
       have hck:=HC.out _ (k+1+m) hBx (by omega);have hle:=Xd p k m;have Hs2:=Hs.out m (by omega);have Hm:=Lib.hid hm
       have hadd:off1+(k+1)+m=off1+(k+1+m):=by omega
       generalize p[k+1+m]?.getD 0=y at *;by_cases hyx:y<x
       ·rw[if_pos hyx] at Hs2
        have HS:=Lib.hid Hs2;clear Hs2 hm;generalize xu p k m=lu at *
        go_wp2
        all_goals (
         go_roundg h
         case rel=>exact⟨m+1,by have:=Hm.out;omega,by rw[HS.out];rfl,by go_num,hNx,hBx⟩
         all_goals omega)
       ·rw[if_neg hyx] at Hs2
        have HS:=Lib.hid Hs2;clear Hs2 hm;generalize xu p k m=lu at *
        go_wp2
        all_goals (
         go_roundg h
         case rel=>exact⟨m+1,by have:=Hm.out;omega,by rw[HS.out];rfl,by go_num,hNx,hBx⟩
         all_goals omega))
 ·have hb:(kh p != 0)=true:=by simpa using he
  have Hne:=Lib.hid he;clear he;generalize hE:kh p=E at *;have HE:=Lib.hid hE;have Hres:Hid (∀e w',e = .returned (.tuple #[.string ⟨#[]⟩,.int .i64 E])→Below w.heap.size w w'→Zr p w e w'):=Lib.hid (fun e w' h1 h2=>⟨by rw[HE.out,if_neg Hne.out];exact h1,h2⟩);clear hE;go_enter Tryz.func58,Tryz.ntmps58
  go_wp2_with fail
  refine(CP.out _ hv).mono ?_;rintro e w1 ⟨rfl,hB1⟩
  go_wp2
  go_ret2;exact Hres.out _ _ rfl hB1
end Go.Proofs.YtneafcdfnhnpnaaGreatDoor
namespace Go.Proofs.YtneafcdfnhnpnaaGreatDoor
open Go.RowKit Go.Lib
instance (l:List UInt8):Decidable (j3 l):=by unfold j3;infer_instance
instance (l:List UInt8):Decidable (jD l):=by unfold jD;infer_instance
def Kf (neg:Bool) (a b:List UInt8) (f:Bool):Int×Rat:=
 if ¬jD a∨(neg=true∧a=[48]) then (1,0)
 else if f=true then
  if ¬jD b∨b=[48]∨b=[49] then (1,0)
  else if 600<a.length∨600<b.length then (4,0)
  else if Nat.gcd (jf a) (jf b)=1 then (0,j4 neg (jf a) (jf b)) else (1,0)
 else if 600<a.length then (4,0) else (0,j4 neg (jf a) 1)
def jY (l:List UInt8):Int×Rat:=Kf (hasPrefix l [45]) (cut (trimPrefix l [45]) [47]).1 (cut (trimPrefix l [45]) [47]).2.1 (cut (trimPrefix l [45]) [47]).2.2
def zf (r:Int×Rat) (w:World) (e:Ending) (w':World):Prop:=if r.1=0 then z7 r.2 w e w' else qa r.1 w e w'
theorem Xs {q:Rat} {w:World} {e:Ending} {w':World} (h:z7 q w e w'):zf (0,q) w e w':=by unfold zf;rw[if_pos rfl];exact h
theorem qF {c:Int} {w:World} {e:Ending} {w':World} (hc:c≠0) (h:qa c w e w'):zf (c,0) w e w':=by unfold zf;rw[if_neg hc];exact h
theorem Sn (dg a b:List UInt8) (h:cut dg [47]=(a,b,false)):b=[]:=by
 unfold cut at h;split at h
 ·simp at h
 ·simp at h;exact h.2
theorem Sm (dg a b:List UInt8) (f:Bool) (h:cut dg [47]=(a,b,f)):a.length≤dg.length∧b.length≤dg.length:=by
 unfold cut at h;split at h
 ·simp only[Prod.mk.injEq] at h
  obtain⟨h1,h2,_⟩:=h;subst h1 h2;constructor
  ·rw[List.length_take];omega
  ·rw[List.length_drop];omega
 ·simp only[Prod.mk.injEq] at h
  obtain⟨h1,h2,_⟩:=h;subst h1 h2
  simp
theorem ZM (l:List UInt8):(trimPrefix l [45]).length≤l.length:=by
 unfold trimPrefix;split
 ·rw[List.length_drop];omega
 ·exact Nat.le_refl _
theorem Cs (l dg a b:List UInt8) (neg f:Bool) (w:World) (h1:hasPrefix l [45]=neg) (h2:trimPrefix l [45]=dg) (h3:cut dg [47]=(a,b,f)) (hdl:dg.length<4294967281) (hG:jN w) (hD:qt dg.length):
  Calls Tryz.prog 102 #[.string ⟨l.toArray⟩] w (zf (Kf neg a b f) w):=by
 obtain⟨ha,hb⟩:=Sm dg a b f h3
 have hal:a.length<4294967281:=by omega
 have hbl:b.length<4294967281:=by omega
 unfold Kf;by_cases hn:jD a
 ·by_cases hz:neg=true∧a=[48]
  ·rw[if_pos (.inr hz)]
   obtain⟨rfl,hz⟩:=hz
   have hz':(a==[48])=true:=by simpa using hz
   cases f with
   | true=>exact(Co l dg a b w h1 h2 h3 hdl hal hG hn hz').mono fun _ _ h=>qF (by decide) h
   | false=>exact(Cp l dg a b w h1 h2 h3 hdl hal hG hn hz').mono fun _ _ h=>qF (by decide) h
  ·rw[if_neg (by rintro (h | h);exact h hn;exact hz h)]
   cases f with
   | false=>
    rw[if_neg (by simp)];have hbn:=Sn dg a b h3;by_cases hlen:600<a.length
    ·rw[if_pos hlen]
     cases neg with
     | true=>exact(Cm l dg a b w h1 h2 h3 hdl hal hG hn (by simpa using hz) hlen).mono fun _ _ h=>qF (by decide) h
     | false=>exact(Cn l dg a b w h1 h2 h3 hdl hal hG hn hlen).mono fun _ _ h=>qF (by decide) h
    ·rw[if_neg hlen]
     cases neg with
     | true=>exact(Ct l dg a b w h1 h2 h3 hdl hal hG (hD.le ha) hn (by simpa using hz) hbn (by omega)).mono fun _ _ h=>Xs h
     | false=>exact(Cu l dg a b w h1 h2 h3 hdl hal hG (hD.le ha) hn hbn (by omega)).mono fun _ _ h=>Xs h
   | true=>
    rw[if_pos rfl];by_cases hd:jD b
    ·by_cases h48:b=[48]
     ·rw[if_pos (.inr (.inl h48))]
      have h48':(b==[48])=true:=by simpa using h48
      cases neg with
      | true=>exact(Cc l dg a b w h1 h2 h3 hdl hal hbl hG hn (by simpa using hz) hd h48').mono fun _ _ h=>qF (by decide) h
      | false=>exact(Cd l dg a b w h1 h2 h3 hdl hal hbl hG hn hd h48').mono fun _ _ h=>qF (by decide) h
     ·have h48':(b==[48])=false:=by simpa using h48
      by_cases h49:b=[49]
      ·rw[if_pos (.inr (.inr h49))]
       have h49':(b==[49])=true:=by simpa using h49
       cases neg with
       | true=>exact(Ce l dg a b w h1 h2 h3 hdl hal hbl hG hn (by simpa using hz) hd h48' h49').mono fun _ _ h=>qF (by decide) h
       | false=>exact(Cf l dg a b w h1 h2 h3 hdl hal hbl hG hn hd h48' h49').mono fun _ _ h=>qF (by decide) h
      ·have h49':(b==[49])=false:=by simpa using h49
       rw[if_neg (by rintro (h | h | h);exact h hd;exact h48 h;exact h49 h)];by_cases hla:600<a.length
       ·rw[if_pos (.inl hla)]
        cases neg with
        | true=>exact(Ck l dg a b w h1 h2 h3 hdl hal hbl hG hn (by simpa using hz) hd h48' h49' hla).mono fun _ _ h=>qF (by decide) h
        | false=>exact(Cl l dg a b w h1 h2 h3 hdl hal hbl hG hn hd h48' h49' hla).mono fun _ _ h=>qF (by decide) h
       ·by_cases hlb:600<b.length
        ·rw[if_pos (.inr hlb)]
         cases neg with
         | true=>exact(Ci l dg a b w h1 h2 h3 hdl hal hbl hG hn (by simpa using hz) hd h48' h49' (by omega) hlb).mono fun _ _ h=>qF (by decide) h
         | false=>exact(Cj l dg a b w h1 h2 h3 hdl hal hbl hG hn hd h48' h49' (by omega) hlb).mono fun _ _ h=>qF (by decide) h
        ·rw[if_neg (by omega)]
         by_cases hg:Nat.gcd (jf a) (jf b)=1
         ·rw[if_pos hg]
          cases neg with
          | true=>exact(Cg l dg a b w h1 h2 h3 hdl hal hbl hG (hD.le ha) (hD.le hb) hn (by simpa using hz) hd h48' h49' (by omega) (by omega) (decide_eq_true hg)).mono fun _ _ h=>Xs h
          | false=>exact(Ch l dg a b w h1 h2 h3 hdl hal hbl hG (hD.le ha) (hD.le hb) hn hd h48' h49' (by omega) (by omega) (decide_eq_true hg)).mono fun _ _ h=>Xs h
         ·rw[if_neg hg]
          cases neg with
          | true=>exact(Cq l dg a b w h1 h2 h3 hdl hal hbl hG (hD.le ha) (hD.le hb) hn (by simpa using hz) hd h48' h49' (by omega) (by omega) (decide_eq_false hg)).mono fun _ _ h=>qF (by decide) h
          | false=>exact(Cr l dg a b w h1 h2 h3 hdl hal hbl hG (hD.le ha) (hD.le hb) hn hd h48' h49' (by omega) (by omega) (decide_eq_false hg)).mono fun _ _ h=>qF (by decide) h
    ·rw[if_pos (.inl hd)]
     cases neg with
     | true=>exact(B0 l dg a b w h1 h2 h3 hdl hal hbl hG hn (by simpa using hz) hd).mono fun _ _ h=>qF (by decide) h
     | false=>exact(B4 l dg a b w h1 h2 h3 hdl hal hbl hG hn hd).mono fun _ _ h=>qF (by decide) h
 ·rw[if_pos (.inl hn)]
  cases neg with
  | true=>cases f with
   | true=>exact(B5 l dg a b w h1 h2 h3 hdl hal hG hn).mono fun _ _ h=>qF (by decide) h
   | false=>exact(B6 l dg a b w h1 h2 h3 hdl hal hG hn).mono fun _ _ h=>qF (by decide) h
  | false=>cases f with
   | true=>exact(B8 l dg a b w h1 h2 h3 hdl hal hG hn).mono fun _ _ h=>qF (by decide) h
   | false=>exact(Ca l dg a b w h1 h2 h3 hdl hal hG hn).mono fun _ _ h=>qF (by decide) h
theorem W7 (l:List UInt8) (w:World) (hl:l.length<4294967281) (hG:jN w) (hD:qt l.length):
  Calls Tryz.prog 102 #[.string ⟨l.toArray⟩] w (zf (jY l) w):=
 Cs l _ _ _ _ _ w rfl rfl rfl (Nat.lt_of_le_of_lt (ZM l) hl) hG (hD.le (ZM l))
def jk (l:List UInt8):Nat:=l.findIdx (· ==47)
theorem Kj (l:List UInt8):jk l≤l.length:=List.findIdx_le_length
theorem FI {l:List UInt8} {k:Nat} {c:UInt8} (hc:l[k]? =some c) (h:c=47) (hk:k≤jk l):jk l=k:=by
 obtain⟨hl,hg⟩:=List.getElem?_eq_some_iff.1 hc;rcases Nat.lt_or_ge k (jk l) with h1 | h1
 ·have:=List.not_of_lt_findIdx h1
  rw[hg,h] at this;simp at this
 ·omega
theorem FK {l:List UInt8} {k:Nat} {c:UInt8} (hc:l[k]? =some c) (h:c≠47) (hk:k≤jk l):k+1≤jk l:=by
 obtain⟨hl,hg⟩:=List.getElem?_eq_some_iff.1 hc;rcases Nat.lt_or_ge k (jk l) with h1 | h1
 ·exact h1
 ·have h2:jk l=k:=by omega
  have h3:jk l<l.length:=by omega
  have:=List.findIdx_getElem (p:=(· ==47)) (w:=h3)
  have e:l[List.findIdx (fun x=>x==47) l]'h3=l[k]:=by congr 1
  rw[e,hg] at this;exact absurd (by simpa using this) h
theorem Yc {c:UInt8} {n:Nat} (hn:n<256) (h:c≠UInt8.ofNat n):((c.toNat:Int)==(n:Int))=false:=by
 have:c.toNat≠n:=fun e=>h (by apply UInt8.toNat_inj.1;rw[e,UInt8.toNat_ofNat'];exact(Nat.mod_eq_of_lt hn).symm)
 simpa using (by omega:¬(c.toNat:Int)=n)
theorem UB {c:UInt8} {n:Nat} (hn:n<256) (h:c=UInt8.ofNat n):((c.toNat:Int)==(n:Int))=true:=by
 subst h;rw[UInt8.toNat_ofNat',Nat.mod_eq_of_lt hn];simp
def xG (n:Nat) (w:World) (e:Ending) (w':World):Prop:=e = .returned (.int .i64 (n:Int))∧w=w'
def x9 (b:Bool) (w:World) (e:Ending) (w':World):Prop:=e = .returned (.bool b)∧w=w'
theorem zF (s:ByteArray) (w:World) (hs:s.size≤4611686018427387904):
  Calls Tryz.prog 103 #[.string s] w (xG (jk s.data.toList) w):=by
 go_enter Tryz.func103,Tryz.ntmps103
 go_wp2
 go_loopg [3,4,10,11,12] s.size (fun g i _ _ _ _ wr=>∃pos:Nat,i = .int .i64 pos∧pos+g=s.size∧Hid (pos≤jk s.data.toList)∧wr=w)
 case atStart=>exact⟨0,rfl,by omega,hid (Nat.zero_le _),rfl⟩
 case round=>
  obtain⟨pos,rfl,hp,hd,rfl⟩:=hrel
  cases gk with
  | zero=>
   have hb:¬((pos:Int)<(s.size:Int)):=by omega
   have HE:Hid (jk s.data.toList=s.size):=hid (by
    have h1:=Kj s.data.toList
    have h2:s.data.toList.length=s.size:=by simp
    have:=hd.out;omega)
   clear hd
   go_wp2
   go_ret;exact⟨by rw[HE.out];rfl,rfl⟩
  | succ gh=>
   have hlt:pos<s.size:=by omega
   have hge:=xr s pos hlt;by_cases hc:s[pos]=47
   ·have hb3:(((s[pos]).toNat:Int)==47)=true:=UB (n:=47) (by decide) hc
    have HE:=hid (FI hge hc hd.out);clear hd hc hge
    go_wp2
    go_ret;exact⟨by rw[HE.out];rfl,rfl⟩
   ·have hb3:(((s[pos]).toNat:Int)==47)=false:=Yc (n:=47) (by decide) hc
    have HE:=hid (FK hge hc hd.out);clear hd hc hge
    go_wp2
    go_roundg gh
    case rel=>exact⟨pos+1,by go_num,by omega,HE,rfl⟩
    case measure=>omega
def KF (l:List UInt8) (k:Nat):Prop:=j3 (l.take k)
theorem KF.step {l:List UInt8} {k:Nat} {c:UInt8} (h:KF l k) (hc:l[k]? =some c) (hd:48≤c.toNat∧c.toNat≤57):KF l (k+1):=by
 intro x hx;rw[List.take_add_one,hc] at hx;rcases List.mem_append.1 hx with h1 | h1
 ·exact h x h1
 ·have:x=c:=by simpa using h1
  subst this;exact hd
theorem MT (s:ByteArray) (w:World) (hs:s.size≤4611686018427387904):
  Calls Tryz.prog 173 #[.string s] w (x9 (decide (j3 s.data.toList)) w):=by
 go_enter Tryz.func173,Tryz.ntmps173
 go_wp2
 go_loopg [3] s.size (fun g i wr=>∃pos:Nat,i = .int .i64 pos∧pos+g=s.size∧Hid (KF s.data.toList pos)∧wr=w)
 case atStart=>exact⟨0,rfl,by omega,hid (fun c hc=>by simp at hc),rfl⟩
 case round=>
  obtain⟨pos,rfl,hp,hd,rfl⟩:=hrel
  cases gk with
  | zero=>
   have hb:¬((pos:Int)<(s.size:Int)):=by omega
   have HE:Hid (decide (j3 s.data.toList)=true):=hid (by
    have h1:=hd.out;unfold KF at h1;rw[List.take_of_length_le (by simp;omega)] at h1
    exact decide_eq_true h1)
   clear hd
   go_wp2
   go_ret;exact⟨by rw[HE.out];rfl,rfl⟩
  | succ gh=>
   have hlt:pos<s.size:=by omega
   have hge:=xr s pos hlt;by_cases h1:48≤(s[pos]).toNat
   ·by_cases h2:(s[pos]).toNat≤57
    ·have hb1:decide (((s[pos]).toNat:Int)<48)=false:=by simp;omega
     have hb2:decide ((57:Int)<((s[pos]).toNat:Int))=false:=by simp;omega
     have HE:=hid (hd.out.step hge ⟨h1,h2⟩);clear hd h1 h2 hge
     go_wp2
     go_roundg gh
     case rel=>exact⟨pos+1,by go_num,by omega,HE,rfl⟩
     case measure=>omega
    ·have hb1:decide (((s[pos]).toNat:Int)<48)=false:=by simp;omega
     have hb2:decide ((57:Int)<((s[pos]).toNat:Int))=true:=by simp;omega
     have HE:Hid (decide (j3 s.data.toList)=false):=hid (decide_eq_false fun h=>by have:=h _ (List.mem_of_getElem? hge);omega);clear hd h1 h2 hge
     go_wp2
     go_ret;exact⟨by rw[HE.out];rfl,rfl⟩
   ·have hb1:decide (((s[pos]).toNat:Int)<48)=true:=by simp;omega
    have HE:Hid (decide (j3 s.data.toList)=false):=hid (decide_eq_false fun h=>by have:=h _ (List.mem_of_getElem? hge);omega);clear hd h1 hge
    go_wp2
    go_ret;exact⟨by rw[HE.out];rfl,rfl⟩
theorem Na (x n k j:Nat) (hk:k≤n) (hj:n-k≤j) (hjn:j<n):(xe x n k)[j]? =some ((qR x (n-1-j)%(n-j):Nat):Int):=by
 induction k with
 | zero=>omega
 | succ k ih=>
  unfold xe;by_cases he:n-1-k=j
  ·subst he
   rw[List.getElem?_set_self (by rw[J3];omega)];rw[show n-1-(n-1-k)=k by omega,show n-(n-1-k)=k+1 by omega]
  ·rw[List.getElem?_set_ne he]
   exact ih (by omega) (by omega)
theorem Nb (x n:Nat):XW (xe x n n):=by
 intro k hk;rw[J3] at hk ⊢;rw[Na x n n k (Nat.le_refl _) (by omega) hk];have:=Nat.mod_lt (qR x (n-1-k)) (show 0<n-k by omega);simp only[Option.getD_some];omega
def xD (n:Int) (l:List UInt8):Int:=
 if ¬(0≤n∧n≤256) then 3 else if (jY l).1≠0 then (jY l).1
 else if (jY l).2.num<0∨(jY l).2.den≠1 then 3 else if qR (jY l).2.num.natAbs n.toNat≠0 then 3 else 0
def Mb (n:Int) (l:List UInt8) (w:World) (e:Ending) (w':World):Prop:=
 Below w.heap.size w w'∧((xD n l=0 ∧ ∃g,e = .returned (.tuple #[.slice (some ⟨g,0,none⟩) n.toNat n.toNat,.int .i64 0])∧w.heap.size≤g∧ja w' g 3 (je (kO (xe (jY l).2.num.natAbs n.toNat n.toNat) n.toNat).1)) ∨
  (xD n l≠0∧e = .returned (.tuple #[.slice none 0 0,.int .i64 (xD n l)])))
theorem Ek (n:Int) (l:List UInt8) (w:World) (hl:l.length<4294967281) (hG:jN w) (hD:qt l.length) (hF:jl (jY l).2.num.natAbs):
  Calls Tryz.prog 59 #[.int .i64 n,.string ⟨l.toArray⟩] w (Mb n l w):=by
 have RD:=hid (W7 l w hl hG hD);have HF:=hid hF;clear hl hG hD hF;by_cases hn:0≤n∧n≤256
 ·obtain⟨m,rfl⟩:=Int.eq_ofNat_of_zero_le hn.1
  have hm:m≤256:=by omega
  have HW:Hid (qk (m:Int) 0 256=0):=hid (by unfold qk;rw[if_pos hn])
  have HC:Hid (xD (m:Int) l=if (jY l).1≠0 then (jY l).1 else if (jY l).2.num<0∨(jY l).2.den≠1 then 3 else if qR (jY l).2.num.natAbs m≠0 then 3 else 0):=hid (by
   unfold xD;rw[if_neg (by simpa using hn)];rfl)
  have HT:Hid ((m:Int).toNat=m):=hid (by simp);clear hn;unfold Mb;rw[HT.out];generalize hrr:jY l=rr at *;obtain⟨code,q⟩:=rr;dsimp only at HC HF ⊢;clear hrr;go_enter Tryz.func59,Tryz.ntmps59
  go_wp2_with (go_at_call 132;refine(XM _ _ _ _).mono ?_;rintro e w' ⟨rfl,rfl⟩;rw[HW.out])
  by_cases hc:code=0
  ·have RD2:Hid (Calls Tryz.prog 102 #[.string ⟨l.toArray⟩] w (z7 q w)):=hid (RD.out.mono fun e w' h=>by unfold zf at h;rw[if_pos hc] at h;exact h)
   have HC2:Hid (xD (m:Int) l=if q.num<0∨q.den≠1 then 3 else if qR q.num.natAbs m≠0 then 3 else 0):=hid (by rw[HC.out,if_neg (by simpa using hc)]);clear hc RD HC;refine RD2.out.mono ?_;clear RD2;rintro e w1 ⟨v,rfl,hv,hB1⟩;obtain⟨nv,dv,rfl,hnv,hdv⟩:=hv;obtain⟨A1,n1,k1,rfl,_⟩:=hnv.size_;obtain⟨A2,n2,k2,rfl,_⟩:=hdv.size_;have Hn:=hid hnv;have Hd:=hid hdv;clear hnv hdv;have hs1:=hB1.size;by_cases hneg:q.num<0
   ·have HR:Hid (xD (m:Int) l=3):=hid (by rw[HC2.out,if_pos (.inl hneg)])
    have hde:decide (q.num<0)=true:=by simpa using hneg
    rw[hde];clear hneg hde
    go_wp2
    go_ret2;exact⟨hB1.alloc hs1 _,.inr ⟨by rw[HR.out];decide,by rw[HR.out];rfl⟩⟩
   ·have hde:decide (q.num<0)=false:=by simpa using hneg
    have Hneg:=hid hneg;rw[hde];clear hneg hde;have hal:Below w1.heap.size w1 (w1.alloc (.cells #[.bool false,.slice A1 n1 k1,.slice A2 n2 k2] 122)):=(Below.refl _ _).alloc (Nat.le_refl _) _;by_cases hden:q.den=1
    ·have Hden:=hid (decide_eq_true hden)
     have HC3:Hid (xD (m:Int) l=if qR q.num.natAbs m≠0 then 3 else 0):=hid (by rw[HC2.out,if_neg (by rintro (h | h);exact Hneg.out h;exact h hden)]);clear hden HC2
     go_wp2_with (go_at_call 139;refine(kU _ _ _ (Hd.out.below hal)).mono ?_;rintro e w' ⟨rfl,rfl⟩;rw[Hden.out])
     refine(Nf _ _ m _ (Hn.out.below hal) HF.out hm).mono ?_;rintro e w2 ⟨u,r,rfl,hu,hr,hB2⟩;have HB2:=hid ((hB1.alloc hs1 (.cells #[.bool false,.slice A1 n1 k1,.slice A2 n2 k2] 122)).trans (hB2.mono (by simp;omega)));have Hu:=hid hu;by_cases hrest:qR q.num.natAbs m=0
     ·have HC4:Hid (xD (m:Int) l=0):=hid (by rw[HC3.out,if_neg (by simpa using hrest)])
      rw[hrest] at hr;obtain⟨A3,k3,rfl⟩:=Nt.zero_len hr;have PK:=hid (Bk u _ w2 hu (Nb _ _) (by rw[J3];exact hm));clear hu hr hB2 hrest HC3
      go_wp2_with fail
      refine PK.out.mono ?_;clear PK;rintro e w3 ⟨g,rfl,hg,hO,hB3⟩;rw[J3] at hO ⊢;have HO:=hid hO;have HB3:=hid (HB2.out.trans (hB3.mono HB2.out.size));have HG:=hid (Nat.le_trans HB2.out.size hg);clear hO hB3 hg
      go_wp2
      go_ret2;exact⟨HB3.out,.inl ⟨HC4.out,g,rfl,HG.out,HO.out⟩⟩
     ·have HC4:Hid (xD (m:Int) l=3):=hid (by rw[HC3.out,if_pos hrest])
      obtain⟨A3,n3,k3,rfl,hn3,_⟩:=hr.pos_len hrest;clear hu hr hB2 hrest HC3
      go_wp2
      go_ret2;exact⟨HB2.out,.inr ⟨by rw[HC4.out];decide,by rw[HC4.out];rfl⟩⟩
    ·have Hden:=hid (decide_eq_false hden)
     have HR:Hid (xD (m:Int) l=3):=hid (by rw[HC2.out,if_pos (.inr hden)]);clear hden HC2
     go_wp2_with (go_at_call 139;refine(kU _ _ _ (Hd.out.below hal)).mono ?_;rintro e w' ⟨rfl,rfl⟩;rw[Hden.out])
     go_ret2;exact⟨hB1.alloc hs1 _,.inr ⟨by rw[HR.out];decide,by rw[HR.out];rfl⟩⟩
  ·have RD2:Hid (Calls Tryz.prog 102 #[.string ⟨l.toArray⟩] w (qa code w)):=hid (RD.out.mono fun e w' h=>by unfold zf at h;rw[if_neg hc] at h;exact h)
   have HC2:Hid (xD (m:Int) l=code):=hid (by rw[HC.out,if_pos hc])
   have hcb:(code != 0)=true:=by simpa using hc
   have Hc:=hid hc;clear hc RD HC;refine RD2.out.mono ?_;clear RD2;rintro e w1 ⟨rfl,hB1⟩;unfold j6;have hs1:=hB1.size
   go_wp2
   go_ret2;exact⟨hB1.alloc hs1 _,.inr ⟨by rw[HC2.out];exact Hc.out,by rw[HC2.out];rfl⟩⟩
 ·have HC:Hid (xD n l=3):=hid (by unfold xD;rw[if_pos hn])
  have HW:Hid (qk n 0 256=3):=hid (by unfold qk;rw[if_neg hn]);clear hn RD HF;go_enter Tryz.func59,Tryz.ntmps59
  go_wp2_with (go_at_call 132;refine(XM _ _ _ _).mono ?_;rintro e w' ⟨rfl,rfl⟩;rw[HW.out])
  go_ret2;exact⟨Below.refl _ _,.inr ⟨by rw[HC.out];decide,by rw[HC.out];rfl⟩⟩
end Go.Proofs.YtneafcdfnhnpnaaGreatDoor
namespace Go.Proofs.YtneafcdfnhnpnaaGreatDoor
open Go.Lib
theorem K6 {d:Nat} (h:d<10):(UInt8.ofNat (48+d)).toNat=48+d:=by rw[UInt8.toNat_ofNat'];omega
theorem qZ (n:Nat):j3 (decDigits n):=by
 induction n using Nat.strongRecOn with
 | _ n ih=>
  by_cases h:n<10
  ·rw[decDigits_one h]
   intro c hc;obtain rfl:=List.mem_singleton.1 hc;rw[K6 h];omega
  ·rw[Jn (by omega)]
   intro c hc;rcases List.mem_append.1 hc with hc | hc
   ·exact ih (n/10) (by omega) c hc
   ·obtain rfl:=List.mem_singleton.1 hc
    rw[K6 (Nat.mod_lt _ (by decide))];omega
theorem zT (n:Nat):jf (decDigits n)=n:=by
 induction n using Nat.strongRecOn with
 | _ n ih=>
  by_cases h:n<10
  ·rw[decDigits_one h,jf,zu,y4,K6 h];omega
  ·rw[Jn (by omega),Jo,ih (n/10) (by omega),jf,zu,y4,K6 (Nat.mod_lt _ (by decide))]
   simp only[List.length_singleton,Nat.pow_one];omega
theorem Sz (n:Nat):decDigits n≠[]:=by
 by_cases h:n<10
 ·rw[decDigits_one h];simp
 ·rw[Jn (by omega)];simp
theorem AC {l:List UInt8} {c:UInt8} (h:jD (l++[c])) (hl:l≠[]):jD l∧l≠[48]:=by
 obtain⟨h1,h2⟩:=h
 have ha:j3 l:=fun x hx=>h1 x (List.mem_append_left _ hx)
 rcases h2 with h2 | ⟨_,h2⟩
 ·have:=congrArg List.length h2
  simp at this;exact absurd (by simpa using this) hl
 ·cases l with
  | nil=>exact absurd rfl hl
  | cons a t=>
   simp at h2;exact⟨⟨ha,.inr ⟨by simp,by simpa using h2⟩⟩,by intro e;injection e with e1 e2;exact h2 e1⟩
theorem AA:∀(k:Nat) (l:List UInt8),l.length=k→jD l→l=decDigits (jf l):=by
 intro k
 induction k with
 | zero=>
  intro l hl h;have:=List.length_eq_zero_iff.1 hl;subst this;rcases h.2 with h | h
  ·cases h
  ·exact absurd rfl h.1
 | succ k ih=>
  intro l hl h
  have hne:l≠[]:=by intro e;rw[e] at hl;simp at hl
  obtain⟨p,c,rfl⟩:∃p c,l=p++[c]:=⟨l.dropLast,l.getLast hne,(List.dropLast_concat_getLast hne).symm⟩
  have hc:=h.1 c (by simp)
  obtain⟨d,hd⟩:∃d,c.toNat=48+d:=⟨c.toNat-48,by omega⟩
  have hcd:c=UInt8.ofNat (48+d):=by apply UInt8.toNat_inj.1;rw[K6 (by omega),hd]
  have hv:jf [c]=d:=by rw[jf,zu,y4];omega
  by_cases hp:p=[]
  ·subst hp
   rw[List.nil_append,hv,decDigits_one (by omega),hcd]
  ·obtain⟨h3,h4⟩:=AC h hp
   have h5:=ih p (by simpa using hl) h3
   have hpos:0<jf p:=by
    rcases Nat.eq_zero_or_pos (jf p) with h6 | h6
    ·rw[h6] at h5;exact absurd (h5.trans (decDigits_one (by decide))) h4
    ·exact h6
   rw[Jo,hv];simp only[List.length_singleton,Nat.pow_one];rw[Jn (by omega),show (jf p*10+d)/10=jf p from by omega,show (jf p*10+d)%10=d from by omega,←h5,hcd]
theorem Qk {l:List UInt8} (h:j3 l):jk l=l.length:=by
 unfold jk
 refine List.findIdx_eq_length.2 fun x hx=> ?_
 have:=h x hx;simp only[beq_eq_false_iff_ne];rintro rfl;exact absurd this.1 (by decide)
theorem Xz {l r:List UInt8} (h:j3 l):jk (l++47::r)=l.length:=by
 have:=Qk h;unfold jk at this ⊢;rw[List.findIdx_append,this,if_neg (by omega)];rw[List.findIdx_cons];simp
end Go.Proofs.YtneafcdfnhnpnaaGreatDoor
namespace Go.Proofs.YtneafcdfnhnpnaaGreatDoor
open Go.RowKit Go.Lib
theorem Rj {s:ByteArray} (h:s.size=0):s.data.toList=[]:=List.length_eq_zero_iff.1 (by simpa using h)
theorem UR (s:ByteArray) (w:World) (hs:s.size≤4611686018427387904):
  Calls Tryz.prog 104 #[.string s] w (x9 (decide (jD s.data.toList)) w):=by
 have DG:=hid (MT s w hs);by_cases h0:s.size=0
 ·have hb0:((s.size:Int)==0)=true:=by rw[h0];rfl
  have HE:Hid (decide (jD s.data.toList)=false):=hid (by rw[Rj h0];decide);clear h0;go_enter Tryz.func104,Tryz.ntmps104
  go_wp2
  go_ret;exact⟨by rw[HE.out];rfl,rfl⟩
 ·have hb0:((s.size:Int)==0)=false:=by simpa using h0
  have h00:0<s.size:=Nat.pos_of_ne_zero h0;have hge:=xr s 0 h00
  have hne:s.data.toList≠[]:=fun e=>by rw[e] at hge;simp at hge
  have hhd:s.data.toList.head? =some s[0]:=by rw[List.head?_eq_getElem?];exact hge
  have hll:s.data.toList.length=s.size:=by simp
  by_cases h1:1<s.size
  ·have h1':(1:Int)<(s.size:Int):=by omega
   by_cases hc:s[0]=48
   ·have hb3:(((s[0]).toNat:Int)==48)=true:=UB (n:=48) (by decide) hc
    have HE:Hid (decide (jD s.data.toList)=false):=hid (decide_eq_false (by
     rintro ⟨_,h | h⟩
     ·rw[h] at hll;simp at hll;omega
     ·exact h.2 (by rw[hhd,hc])))
    clear h0 h1 hge hne hhd hll hc DG;go_enter Tryz.func104,Tryz.ntmps104
    go_wp2
    go_ret;exact⟨by rw[HE.out];rfl,rfl⟩
   ·have hb3:(((s[0]).toNat:Int)==48)=false:=Yc (n:=48) (by decide) hc
    have HE:Hid (decide (jD s.data.toList)=decide (j3 s.data.toList)):=hid (by
     congr 1
     apply propext
     exact⟨fun h=>h.1,fun h=>⟨h,.inr ⟨hne,by rw[hhd];intro e;exact hc (Option.some.inj e)⟩⟩⟩)
    clear h0 h1 hge hne hhd hll hc;go_enter Tryz.func104,Tryz.ntmps104
    go_wp2_with fail
    refine DG.out.mono ?_;rintro e w1 ⟨rfl,rfl⟩
    go_wp2
    go_ret;exact⟨by rw[HE.out];rfl,rfl⟩
  ·have h1':decide ((1:Int)<(s.size:Int))=false:=by simp;omega
   have HE:Hid (decide (jD s.data.toList)=decide (j3 s.data.toList)):=hid (by
     congr 1
     apply propext;refine⟨fun h=>h.1,fun h=>⟨h,?_⟩⟩;by_cases hc:s[0]=48
     ·refine .inl ?_
      obtain⟨a,ha⟩:=List.length_eq_one_iff.1 (by omega:s.data.toList.length=1);rw[ha] at hhd ⊢;rw[show a=48 from by rw[←hc];exact Option.some.inj hhd]
     ·exact .inr ⟨hne,by rw[hhd];intro e;exact hc (Option.some.inj e)⟩)
   clear h0 h1 hge hne hhd hll;go_enter Tryz.func104,Tryz.ntmps104
   go_wp2_with fail
   refine DG.out.mono ?_;rintro e w1 ⟨rfl,rfl⟩
   go_wp2
   go_ret;exact⟨by rw[HE.out];rfl,rfl⟩
theorem Sw {l:List UInt8} {k:Nat} {c:UInt8} (hc:l[k]? =some c):jf (l.take (k+1))=10*jf (l.take k)+(c.toNat-48):=by
 rw[List.take_add_one,hc,Option.toList_some,Jo]
 have:jf [c]=c.toNat-48:=by rw[jf,zu,y4];omega
 rw[this];simp;omega
theorem Sy {l:List UInt8} (h:j3 l) (k n:Nat) (hk:k≤n):jf (l.take k)<10^n:=by
 have:=qP (Jl h k);refine Nat.lt_of_lt_of_le this (Nat.pow_le_pow_right (by decide) ?_);rw[List.length_take];omega
theorem Qo (s:ByteArray) (w:World) (hs:s.size≤18) (hd:j3 s.data.toList):
  Calls Tryz.prog 180 #[.string s] w (xG (jf s.data.toList) w):=by
 have HD:=hid hd;clear hd;go_enter Tryz.func180,Tryz.ntmps180
 go_wp2
 go_loopg [3,4] s.size (fun g n i wr=>∃(pos x:Nat),i = .int .i64 pos∧n = .int .i64 (x:Int)∧pos+g=s.size∧Hid (x=jf (s.data.toList.take pos))∧wr=w)
 case atStart=>exact⟨0,0,rfl,rfl,by omega,hid rfl,rfl⟩
 case round=>
  obtain⟨pos,x,rfl,rfl,hp,hd,rfl⟩:=hrel
  cases gk with
  | zero=>
   have hb:¬((pos:Int)<(s.size:Int)):=by omega
   have HE:Hid (jf s.data.toList=x):=hid (by
    have h1:=hd.out;rw[List.take_of_length_le (by simp;omega)] at h1
    exact h1.symm)
   clear hd
   go_wp2
   go_ret;exact⟨by rw[HE.out];rfl,rfl⟩
  | succ gh=>
   have hlt:pos<s.size:=by omega
   have hge:=xr s pos hlt
   have hx:x<100000000000000000:=by
    have:=Sy HD.out pos 17 (by omega);rw[←hd.out] at this;exact this
   have hcc:=HD.out _ (List.mem_of_getElem? hge);have HE:Hid (10*x+((s[pos]).toNat-48)=jf (s.data.toList.take (pos+1))):=hid (by rw[Sw hge,hd.out]);clear hd hge
   obtain⟨d,hdd⟩:∃d,(s[pos]).toNat=d+48:=⟨(s[pos]).toNat-48,by omega⟩
   have HE2:Hid (10*x+d=jf (s.data.toList.take (pos+1))):=hid (by rw[←HE.out,hdd];omega)
   have hd9:d≤9:=by omega
   clear HE hcc
   go_wp2
   go_roundg gh
   case rel=>exact⟨pos+1,10*x+d,by go_num,by go_num,by omega,HE2,rfl⟩
   case measure=>omega
theorem ZK {s:ByteArray} {l:List UInt8} (h:s.data.toList=l) (a b:Nat):(s.extract a b).data.toList=(l.take b).drop a:=by
 rw[←h];simp[List.drop_take]
def xN (l:List UInt8):List UInt8:=l.take (jk l)
def yM (l:List UInt8):List UInt8:=if jk l=l.length then [49] else l.drop (jk l+1)
def qm (l:List UInt8):Int:=if l=[48] then 0 else if l[0]? =some 45 then -1 else 1
def xC (l:List UInt8):List UInt8:=if qm l<0 then l.drop 1 else l
def xl (l:List UInt8):Int:=if 600<(xC (xN l)).length∨600<(yM l).length then 4 else 0
def Q9 (l:List UInt8) (w:World) (e:Ending) (w':World):Prop:=e = .returned (.string ⟨l.toArray⟩)∧w=w'
theorem XE (s:ByteArray):s=⟨s.data.toList.toArray⟩:=by cases s;simp
theorem CG (l:List UInt8) (w:World) (hl:l.length≤4000000000000000000):Calls Tryz.prog 166 #[.string ⟨l.toArray⟩] w (Q9 (xN l) w):=by
 have SL:=hid (zF ⟨l.toArray⟩ w (by simp[ByteArray.size];omega))
 obtain⟨s,hs⟩:∃s:ByteArray,s=⟨l.toArray⟩:=⟨_,rfl⟩
 have hsl:s.data.toList=l:=by rw[hs]
 have hsz:s.size=l.length:=by rw[hs];simp[ByteArray.size]
 rw[←hs] at SL ⊢;rw[hsl] at SL;have hk:=Kj l
 have HE:Hid (s.extract 0 (jk l)=⟨(xN l).toArray⟩):=hid (by
  have h:=ZK (a:=0) (b:=jk l) hsl
  rw[XE (s.extract 0 (jk l)),h];unfold xN;simp)
 clear hs hsl
 have hkI:((jk l:Nat):Int)≤(s.size:Int):=by omega
 have hsI:(s.size:Int)≤4000000000000000000:=by omega
 clear hk hsz hl;generalize jk l=k at *;go_enter Tryz.func166,Tryz.ntmps166
 go_wp2_with fail
 refine SL.out.mono ?_;rintro e w1 ⟨rfl,rfl⟩
 go_wp2
 go_ret;exact⟨by rw[←HE.out];rfl,rfl⟩
theorem CB (l:List UInt8) (w:World) (hl:l.length≤4000000000000000000):Calls Tryz.prog 167 #[.string ⟨l.toArray⟩] w (Q9 (yM l) w):=by
 have SL:=hid (zF ⟨l.toArray⟩ w (by simp[ByteArray.size];omega))
 obtain⟨s,hs⟩:∃s:ByteArray,s=⟨l.toArray⟩:=⟨_,rfl⟩
 have hsl:s.data.toList=l:=by rw[hs]
 have hsz:s.size=l.length:=by rw[hs];simp[ByteArray.size]
 rw[←hs] at SL ⊢;rw[hsl] at SL;have hk:=Kj l;by_cases h:jk l=l.length
 ·have HD:Hid (yM l=[49]):=hid (by unfold yM;rw[if_pos h])
  have hb:((jk l:Nat):Int)==(s.size:Int):=by rw[h,hsz];simp
  clear hs hsl hsz h hk;generalize jk l=k at *;go_enter Tryz.func167,Tryz.ntmps167
  go_wp2_with fail
  refine SL.out.mono ?_;rintro e w1 ⟨rfl,rfl⟩
  go_wp2
  go_ret;exact⟨by rw[HD.out];rfl,rfl⟩
 ·have hb:(((jk l:Nat):Int)==(s.size:Int))=false:=by simpa using (by omega:¬((jk l:Nat):Int)=(s.size:Int))
  have hkI:((jk l:Nat):Int)+1≤(s.size:Int):=by omega
  have hsI:(s.size:Int)≤4000000000000000000:=by omega
  have HE:Hid (s.extract (jk l+1) s.size=⟨(yM l).toArray⟩):=hid (by
   have h1:=ZK (a:=jk l+1) (b:=s.size) hsl
   rw[XE (s.extract (jk l+1) s.size),h1];unfold yM;rw[if_neg h,hsz,List.take_of_length_le (Nat.le_refl _)])
  clear hs hsl hk hsz hl h;generalize jk l=k at *;go_enter Tryz.func167,Tryz.ntmps167
  go_wp2_with fail
  refine SL.out.mono ?_;rintro e w1 ⟨rfl,rfl⟩
  go_wp2
  go_ret;exact⟨by rw[←HE.out];rfl,rfl⟩
def VC (n:Int) (w:World) (e:Ending) (w':World):Prop:=e = .returned (.int .i64 n)∧w=w'
theorem Gd (l:List UInt8) (w:World) (hl:l.length≤4000000000000000000):Calls Tryz.prog 62 #[.string ⟨l.toArray⟩] w (VC (qm l) w):=by
 obtain⟨s,hs⟩:∃s:ByteArray,s=⟨l.toArray⟩:=⟨_,rfl⟩
 have hsl:s.data.toList=l:=by rw[hs]
 have hsz:s.size=l.length:=by rw[hs];simp[ByteArray.size]
 rw[←hs];by_cases h:l=[48]
 ·have HS:Hid (qm l=0):=hid (by unfold qm;rw[if_pos h])
  have hz:(s.toList==[48])=true:=by rw[ByteArray.toList_eq,hsl,h];rfl
  clear hs hsl hsz h;go_enter Tryz.func62,Tryz.ntmps62
  go_wp2
  go_ret;exact⟨by rw[HS.out];rfl,rfl⟩
 ·have hz:(s.toList==[48])=false:=by rw[ByteArray.toList_eq,hsl];simpa using h
  by_cases h0:s.size=0
  ·have HS:Hid (qm l=1):=hid (by
    have:l=[]:=List.length_eq_zero_iff.1 (by omega)
    subst this;unfold qm;rw[if_neg (by simp),if_neg (by simp)])
   have hI:(0<s.size)=False:=eq_false (by omega);clear hs hsl hsz h h0;go_enter Tryz.func62,Tryz.ntmps62
   go_wp2
   go_ret;exact⟨by rw[HS.out];rfl,rfl⟩
  ·have h1:0<s.size:=by omega
   have hI:(0:Int)<(s.size:Int):=by omega
   have hg:=xr s 0 h1;rw[hsl] at hg;by_cases hc:l[0]? =some 45
   ·have HS:Hid (qm l = -1):=hid (by unfold qm;rw[if_neg h,if_pos hc])
    have hcc:(((s[0]).toNat:Int)==45)=true:=by
     rw[hc] at hg;have:s[0]=45:=(Option.some.inj hg).symm;rw[this];rfl
    clear hs hsl hsz h h0 hc hg;go_enter Tryz.func62,Tryz.ntmps62
    go_wp2
    go_ret;exact⟨by rw[HS.out];rfl,rfl⟩
   ·have HS:Hid (qm l=1):=hid (by unfold qm;rw[if_neg h,if_neg hc])
    have hcc:(((s[0]).toNat:Int)==45)=false:=by
     simp only[beq_eq_false_iff_ne];intro e;apply hc;rw[hg]
     have:(s[0]).toNat=45:=by omega
     congr 1
     exact UInt8.toNat_inj.1 this
    clear hs hsl hsz h h0 hc hg;go_enter Tryz.func62,Tryz.ntmps62
    go_wp2
    go_ret;exact⟨by rw[HS.out];rfl,rfl⟩
theorem F4 {l:List UInt8} (h:qm l<0):0<l.length:=by
 unfold qm at h;split at h
 ·omega
 ·split at h
  ·rename_i hc
   rcases Nat.eq_zero_or_pos l.length with h0 | h0
   ·rw[List.length_eq_zero_iff.1 h0] at hc;simp at hc
   ·exact h0
  ·omega
theorem Cv (l:List UInt8) (w:World) (hl:l.length≤4000000000000000000):Calls Tryz.prog 165 #[.string ⟨l.toArray⟩] w (Q9 (xC l) w):=by
 have SG:=hid (Gd l w hl)
 obtain⟨s,hs⟩:∃s:ByteArray,s=⟨l.toArray⟩:=⟨_,rfl⟩
 have hsl:s.data.toList=l:=by rw[hs]
 have hsz:s.size=l.length:=by rw[hs];simp[ByteArray.size]
 rw[←hs] at SG ⊢;by_cases h:qm l<0
 ·have hp:=F4 h
  have HE:Hid (s.extract 1 s.size=⟨(xC l).toArray⟩):=hid (by
   have h1:=ZK (a:=1) (b:=s.size) hsl
   rw[XE (s.extract 1 s.size),h1];unfold xC;rw[if_pos h,hsz,List.take_of_length_le (Nat.le_refl _)])
  have hI:(1:Int)≤(s.size:Int):=by omega
  have hsI:(s.size:Int)≤4000000000000000000:=by omega
  clear hs hsl hsz hp hl;generalize qm l=g at *;go_enter Tryz.func165,Tryz.ntmps165
  go_wp2_with fail
  refine SG.out.mono ?_;rintro e w1 ⟨rfl,rfl⟩
  go_wp2
  go_ret;exact⟨by rw[←HE.out];rfl,rfl⟩
 ·have HE:Hid (s=⟨(xC l).toArray⟩):=hid (by unfold xC;rw[if_neg h];exact hs)
  have hI:(qm l<0)=False:=eq_false h;clear hs hsl hsz hl h;generalize qm l=g at *;go_enter Tryz.func165,Tryz.ntmps165
  go_wp2_with fail
  refine SG.out.mono ?_;rintro e w1 ⟨rfl,rfl⟩
  go_wp2
  go_ret;exact⟨by rw[←HE.out];rfl,rfl⟩
theorem G8 (l:List UInt8):(xN l).length≤l.length:=by unfold xN;rw[List.length_take];omega
theorem F3 (l:List UInt8):(xC l).length≤l.length:=by unfold xC;split <;> simp
theorem GU (l:List UInt8):(⟨l.toArray⟩:ByteArray).size=l.length:=by simp[ByteArray.size]
theorem W9 (l:List UInt8) (w:World) (hl:l.length≤4000000000000000000):Calls Tryz.prog 115 #[.string ⟨l.toArray⟩] w (VC (xl l) w):=by
 have NM:=hid (CG l w hl);have AB:=hid (Cv (xN l) w (by have:=G8 l;omega));have DN:=hid (CB l w hl)
 have ha:(xC (xN l)).length≤4000000000000000000:=by have:=G8 l;have:=F3 (xN l);omega
 have HL:Hid (∀(a b:Prop) [Decidable a] [Decidable b],(a↔600<(xC (xN l)).length)→(b↔600<(yM l).length)→(a∨b→xl l=4)∧(¬a → ¬b→xl l=0)):=hid (fun a b _ _ h1 h2=>by
  unfold xl
  refine⟨fun h=>by rw[if_pos];rw[←h1,←h2];exact h,fun h3 h4=>by rw[if_neg];rw[←h1,←h2];rintro (h | h);exact h3 h;exact h4 h⟩)
 clear hl;have s1:=GU (xC (xN l));have s2:=GU (yM l)
 obtain⟨A,hA⟩:∃A:ByteArray,A=⟨(xC (xN l)).toArray⟩:=⟨_,rfl⟩
 obtain⟨D,hD⟩:∃D:ByteArray,D=⟨(yM l).toArray⟩:=⟨_,rfl⟩
 unfold Q9 at AB DN;rw[←hA] at AB s1;rw[←hD] at DN s2;rw[←s1] at HL ha;rw[←s2] at HL;clear hA hD s1 s2;have HR:Hid ((600<A.size→xl l=4)∧(¬600<A.size→600<D.size→xl l=4)∧(¬600<A.size → ¬600<D.size→xl l=0)):=hid ⟨fun h=>(HL.out _ _ Iff.rfl Iff.rfl).1 (.inl h),fun _ h=>(HL.out _ _ Iff.rfl Iff.rfl).1 (.inr h),fun h1 h2=>(HL.out _ _ Iff.rfl Iff.rfl).2 h1 h2⟩;clear HL;generalize xl l=g at *;by_cases h1:600<A.size
 ·have hI:(600:Int)<(A.size:Int):=by omega
  have HG:=hid (HR.out.1 h1);clear h1 HR;go_enter Tryz.func115,Tryz.ntmps115
  go_wp2_with fail
  refine NM.out.mono ?_;rintro e w1 ⟨rfl,rfl⟩
  go_wp2_with fail
  refine AB.out.mono ?_;rintro e w1 ⟨rfl,rfl⟩
  go_wp2
  go_ret;exact⟨by rw[HG.out];rfl,rfl⟩
 ·have hI:decide ((600:Int)<(A.size:Int))=false:=decide_eq_false (by omega)
  by_cases h2:600<D.size
  ·have hJ:(600:Int)<(D.size:Int):=by omega
   have HG:=hid (HR.out.2.1 h1 h2);clear h1 h2 HR;go_enter Tryz.func115,Tryz.ntmps115
   go_wp2_with fail
   refine NM.out.mono ?_;rintro e w1 ⟨rfl,rfl⟩
   go_wp2_with fail
   refine AB.out.mono ?_;rintro e w1 ⟨rfl,rfl⟩
   go_wp2_with fail
   refine DN.out.mono ?_;rintro e w1 ⟨rfl,rfl⟩
   go_wp2
   go_ret;exact⟨by rw[HG.out];rfl,rfl⟩
  ·have hJ:decide ((600:Int)<(D.size:Int))=false:=decide_eq_false (by omega)
   have HG:=hid (HR.out.2.2 h1 h2);clear h1 h2 HR;go_enter Tryz.func115,Tryz.ntmps115
   go_wp2_with fail
   refine NM.out.mono ?_;rintro e w1 ⟨rfl,rfl⟩
   go_wp2_with fail
   refine AB.out.mono ?_;rintro e w1 ⟨rfl,rfl⟩
   go_wp2_with fail
   refine DN.out.mono ?_;rintro e w1 ⟨rfl,rfl⟩
   go_wp2
   go_ret;exact⟨by rw[HG.out];rfl,rfl⟩
