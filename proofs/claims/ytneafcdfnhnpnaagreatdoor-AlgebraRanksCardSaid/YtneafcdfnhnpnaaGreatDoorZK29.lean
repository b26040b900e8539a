/- Contract: elements are picked by their places. -/
import Derived.Test.YtneafcdfnhnpnaaGreatDoorZK28
import Derived.Lib.LazyBuf
import Derived.Deep.Upon
import Derived.RangeFuncNested
import Derived.RangeFuncBound
set_option maxRecDepth 100000
set_option maxHeartbeats 4000000
namespace Go.Proofs.YtneafcdfnhnpnaaGreatDoor
open Go.RowKit
def jT (pl:List Int):Nat→List Int×List Int
 | 0=>([],(List.range pl.length).map fun (i:Nat)=>(i:Int))
 | k+1=>((jT pl k).1++[(jT pl k).2[(pl[k]?.getD 0).toNat]?.getD 0],(jT pl k).2.eraseIdx (pl[k]?.getD 0).toNat)
def Ya (pl:List Int):Prop:=∀k,k<pl.length→0≤pl[k]?.getD 0∧pl[k]?.getD 0<((pl.length-k:Nat):Int)
theorem Zl {pl:List Int} (h:Ya pl) (k:Nat) (hk:k≤pl.length):(jT pl k).1.length=k∧(jT pl k).2.length=pl.length-k:=by
 induction k with
 | zero=>simp[jT]
 | succ k ih=>
  have ih:=ih (by omega);have hp:=h k (by omega);unfold jT;refine⟨by simp[ih.1],?_⟩;rw[List.length_eraseIdx_of_lt (by rw[ih.2];omega),ih.2];omega
def Ko (cs:List Value):Nat→List Value→List Value
 | _,[]=>cs
 | o,v::r=>Ko (cs.set o v) (o+1) r
theorem ja.puts {g:Nat} {t:TypeId} (vs:List Value):∀ {w:World} {cs:List Value} (o:Nat),ja w g t cs→ja (w.setCells g o vs) g t (Ko cs o vs):=by
 induction vs with
 | nil=>exact fun o h=>h
 | cons v r ih=>exact fun o h=>ih (o+1) (h.put o v)
theorem Cr (vs:List Value):∀(cs:List Value) (o:Nat),o+vs.length≤cs.length→Ko cs o vs=cs.take o++(vs++cs.drop (o+vs.length)):=by
 induction vs with
 | nil=>intro cs o h;simp[Ko]
 | cons v r ih=>
  intro cs o h;simp only[List.length_cons] at h ⊢;unfold Ko;rw[ih _ _ (by rw[List.length_set];omega)];have:=list_seg_step cs o v r (by omega);rw[List.append_assoc,List.append_assoc] at this;exact this
theorem S8 (l z:List Int) (a:Nat) (ha:a<l.length):Ko (jc (l++z)) 0 ((((l++z).take l.length).take a++((l++z).take l.length).drop (a+1)++List.replicate (a+1-a) 0).map (Value.int .i64))=jc (l.eraseIdx a++(0::z)):=by
 rw[List.take_left,Cr _ _ _ (by simp[jc];omega),List.take_zero,List.nil_append,List.eraseIdx_eq_take_drop_succ]
 have hl:((l.take a++l.drop (a+1)++List.replicate (a+1-a) 0).map (Value.int .i64)).length=l.length:=by simp;omega
 rw[hl,Nat.zero_add,show a+1-a=1 by omega]
 have hd:(jc (l++z)).drop l.length=jc z:=by
  unfold jc;rw[List.map_append,List.drop_left' (by simp)]
 rw[hd];simp[jc]
theorem D5 (pl:List Int) (k:Nat):(jT pl (k+1)).1=(jT pl k).1++[(jT pl k).2[(pl[k]?.getD 0).toNat]?.getD 0]:=rfl
def xU (n k:Nat):List Int:=(List.range k).map (fun (i:Nat)=>(i:Int))++List.replicate (n-k) 0
theorem TY (n k:Nat):(xU n k).length=k+(n-k):=by simp[xU]
theorem T0 (n:Nat):xU n 0=List.replicate n 0:=by simp[xU]
theorem TW (n:Nat):xU n n=(List.range n).map fun (i:Nat)=>(i:Int):=by simp[xU]
theorem TZ (n k:Nat) (h:k<n):(xU n k).set k (k:Int)=xU n (k+1):=by
 unfold xU;rw[List.set_append_right _ _ (by simp),show n-k=(n-(k+1))+1 by omega,List.replicate_succ,List.length_map,List.length_range,Nat.sub_self,List.set_cons_zero,List.range_succ,List.map_append,List.append_assoc];rfl
def D4 (pl:List Int) (w:World) (e:Ending) (w':World):Prop:=
 ∃g,e = .returned (.slice (some ⟨g,0,none⟩) pl.length pl.length)∧w.heap.size≤g∧ja w' g 3 (jc (jT pl pl.length).1)∧Below w.heap.size w w'
theorem D7 (v:Value) (pl:List Int) (w:World) (hv:Sl w 1 v (jc pl)) (hp:Ya pl) (hl:pl.length≤256):
  Calls Tryz.prog 141 #[v] w (D4 pl w):=by
 obtain⟨A,c,rfl,hc1,hc2⟩:=hv.form;simp only[jQ] at hc1 hv ⊢
 obtain⟨n,hn⟩:∃n,n=pl.length:=⟨_,rfl⟩
 have HP:=Lib.hid hp
 have hmk:=fun W=>Jx W n (by omega)
 have HN:=Lib.hid hn;have HO0:=Lib.hid (ja.make w 3 (jc (List.replicate n 0)));rw[←hn] at hc1 hl ⊢;clear hp hn;go_enter Tryz.func141,Tryz.ntmps141
 go_wp2_with fail
 go_loopg [13] n (fun gh i wr=>∃k:Nat,i = .int .i64 k∧k+gh=n∧Hid (ja wr w.heap.size 3 (jc (xU n k)))∧Hid (Below w.heap.size w wr))
 case atStart=>exact⟨0,rfl,by omega,Lib.hid (by rw[T0];exact HO0.out),Lib.hid ((Below.refl _ _).alloc (Nat.le_refl _) _)⟩
 case round=>
  clear HO0;obtain⟨k,rfl,hk,hO,hB⟩:=hrel
  cases gk with
  | succ gh=>
   have hlt:k<n:=by omega
   have hlt':(k:Int)<(n:Int):=by omega
   have c2:=(hO.out.cell k).trans (kh _ k (by rw[TY];omega));have f2:=hO.out.free k;have HO2:Hid (ja (wr.setCell ⟨w.heap.size,k,none⟩ (.int .i64 k)) w.heap.size 3 (jc (xU n (k+1)))):=Lib.hid (by rw[←TZ n k hlt,←xF];exact hO.out.put _ _);have HB2:=Lib.hid (hB.out.setCell (p:=⟨w.heap.size,k,none⟩) (Nat.le_refl _) (.int .i64 k));have Hk:=Lib.hid hk;clear hO hB hk;generalize (xU n k)[k]?.getD 0=y at *
   go_wp2
   go_roundg gh
   case rel=>exact⟨k+1,by go_num,by have:=Hk.out;omega,HO2,HB2⟩
   case measure=>omega
  | zero=>
   have hin:¬((k:Int)<(n:Int)):=by omega
   have hs:=hB.out.size;have hgl:=hO.out.lt
   have HOL:Hid (ja (wr.alloc (.cells (jc (List.replicate n 0)).toArray 3)) w.heap.size 3 (jc ((jT pl 0).2++List.replicate 0 0))):=Lib.hid (by
    have h:=hO.out.alloc (.cells (jc (List.replicate n 0)).toArray 3)
    have e:jc (xU n k)=jc ((jT pl 0).2++List.replicate 0 0):=by rw[show k=n by omega,TW,HN.out];simp[jT]
    rw[e] at h
    exact h)
   have HOP:Hid (ja (wr.alloc (.cells (jc (List.replicate n 0)).toArray 3)) wr.heap.size 3 (jc ((jT pl 0).1++List.replicate (n-0) 0))):=Lib.hid (by simpa [jT] using ja.make wr 3 (jc (List.replicate n 0)));have HB0:=Lib.hid (hB.out.alloc hs (.cells (jc (List.replicate n 0)).toArray 3));have hmk2:=hmk wr;clear hO hB hk hmk
   go_wp2_with fail
   obtain⟨wb,rfl⟩:∃wb,wb=wr:=⟨_,rfl⟩
   go_loopg [3,26] n (fun gh lf i wx=>∃k:Nat,i = .int .i64 k∧k+gh=n∧lf = .slice (some ⟨w.heap.size,0,none⟩) (n-k) n∧Hid (ja wx w.heap.size 3 (jc ((jT pl k).2++List.replicate k 0)))∧Hid (ja wx wb.heap.size 3 (jc ((jT pl k).1++List.replicate (n-k) 0)))∧Hid (Below w.heap.size w wx))
   case atStart=>exact⟨0,rfl,by omega,by simp,HOL,HOP,HB0⟩
   case round=>
    clear HOL HOP HB0 hmk2;obtain⟨i,rfl,hi,rfl,hL,hP,hB⟩:=hrel
    cases gk with
    | zero=>
     have hin2:¬((i:Int)<(n:Int)):=by omega
     have HPf:Hid (ja wr wb.heap.size 3 (jc (jT pl pl.length).1)):=Lib.hid (by
      have h:=hP.out;rw[show i=n by omega,Nat.sub_self,HN.out] at h
      simpa using h)
     clear hi
     go_wp2
     go_ret;exact⟨_,by rw[HN.out];rfl,hs,HPf.out,hB.out⟩
    | succ gh=>
     have hlt:i<n:=by omega
     have hlt':(i:Int)<(n:Int):=by omega
     obtain⟨hl1,hl2⟩:=Zl HP.out i (by rw[←HN.out];omega);rw[←HN.out] at hl2;have hpi:=HP.out i (by rw[←HN.out];exact hlt);rw[←HN.out] at hpi;obtain⟨b1,off1,rfl,hbb1,hcell1⟩:=hv.at_ (k:=i) (by rw[jQ,←HN.out];exact hlt);have c1:=(hB.out.cell (p:=⟨b1,off1+i,none⟩) hbb1).trans ((hcell1 i (by rw[jQ,←HN.out];exact hlt)).trans (kh pl i (by rw[←HN.out];exact hlt)));have HS1:Hid ((jT pl (i+1)).1=(jT pl i).1++[(jT pl i).2[(pl[i]?.getD 0).toNat]?.getD 0]):=Lib.hid rfl;have HS2:Hid ((jT pl (i+1)).2=(jT pl i).2.eraseIdx (pl[i]?.getD 0).toNat):=Lib.hid rfl;generalize pl[i]?.getD 0=pa at *;obtain⟨a,rfl⟩:=Int.eq_ofNat_of_zero_le hpi.1
     have ha:a<n-i:=by omega
     rw[Int.toNat_natCast] at HS1 HS2;generalize hPe:(jT pl (i+1)).1=P' at *;generalize hLe:(jT pl (i+1)).2=L' at *;have HPe:=Lib.hid hPe;have HLe:=Lib.hid hLe;clear hPe hLe;generalize (jT pl i).1=P at *;generalize (jT pl i).2=L at *;have c2:=(hL.out.cell a).trans (kh _ a (by simp;omega));rw[List.getElem?_append_left (by omega)] at c2;have c3:=(hP.out.cell i).trans (kh _ i (by simp;omega));have f3:=hP.out.free i;have hbl:=hP.out.lt;generalize (P++List.replicate (n-i) 0)[i]?.getD 0=y at *;generalize hx:L[a]?.getD 0=x at *
     have HP2:Hid (ja (wr.setCell ⟨wb.heap.size,i,none⟩ (.int .i64 x)) wb.heap.size 3 (jc (P'++List.replicate (n-(i+1)) 0))):=Lib.hid (by
      have h:=hP.out.put i (.int .i64 x);rw[xF,List.set_append_right _ _ (by omega),hl1,Nat.sub_self,show n-i=(n-(i+1))+1 by omega,List.replicate_succ,List.set_cons_zero] at h;rw[HS1.out,List.append_assoc]
      exact h)
     have HL2:=Lib.hid (hL.out.other (p:=⟨wb.heap.size,i,none⟩) (by simp;omega) (.int .i64 x));have HB2:=Lib.hid (hB.out.setCell (p:=⟨wb.heap.size,i,none⟩) hs (.int .i64 x))
     have DL:=Lib.hid (Tryz.slices_Delete_int_cells w.heap.size 0 (n-i) n a (a+1) (L++List.replicate i 0) (wr.setCell ⟨wb.heap.size,i,none⟩ (.int .i64 x)) (by simp;omega) (by omega) (by omega) (by omega) (by omega) (fun j hj=>by
      rw[Nat.zero_add,HL2.out.cell j,kh _ j hj];simp) (fun j hj=>by rw[Nat.zero_add];exact HL2.out.free j))
     rw[show (((a+1:Nat)):Int)=(a:Int)+1 by omega,show n-i-(a+1-a)=n-(i+1) by omega] at DL;have Hi:=Lib.hid hi;clear hcell1 hP hL hB hx hi hpi
     go_wp2_with fail
     refine DL.out.mono ?_;clear DL;rintro e w4 ⟨rfl,q,rfl⟩
     have HL3:Hid (ja (((wr.setCell ⟨wb.heap.size,i,none⟩ (.int .i64 x)).drewN q).setCells w.heap.size 0 ((((L++List.replicate i 0).take (n-i)).take a++((L++List.replicate i 0).take (n-i)).drop (a+1)++List.replicate (a+1-a) 0).map (Value.int .i64))) w.heap.size 3 (jc (L'++List.replicate (i+1) 0))):=Lib.hid (by
      have h:=(HL2.out.drewN q).puts ((((L++List.replicate i 0).take (n-i)).take a++((L++List.replicate i 0).take (n-i)).drop (a+1)++List.replicate (a+1-a) 0).map (Value.int .i64)) 0;have e:=S8 L (List.replicate i 0) a (by omega);rw[hl2] at e;rw[e] at h;rw[HS2.out,List.replicate_succ]
      exact h)
     have HP3:Hid (ja (((wr.setCell ⟨wb.heap.size,i,none⟩ (.int .i64 x)).drewN q).setCells w.heap.size 0 ((((L++List.replicate i 0).take (n-i)).take a++((L++List.replicate i 0).take (n-i)).drop (a+1)++List.replicate (a+1-a) 0).map (Value.int .i64))) wb.heap.size 3 (jc (P'++List.replicate (n-(i+1)) 0))):=Lib.hid (by
      have h:=HP2.out.drewN q
      exact(World.heap_setCells_other _ _ _ _ h.lt (by omega)).trans h)
     have HB3:=Lib.hid (below_setCells (Nat.le_refl w.heap.size) ((((L++List.replicate i 0).take (n-i)).take a++((L++List.replicate i 0).take (n-i)).drop (a+1)++List.replicate (a+1-a) 0).map (Value.int .i64)) 0 _ (below_drewN HB2.out q));clear HL2 HP2 HB2;generalize (((wr.setCell ⟨wb.heap.size,i,none⟩ (.int .i64 x)).drewN q).setCells w.heap.size 0 ((((L++List.replicate i 0).take (n-i)).take a++((L++List.replicate i 0).take (n-i)).drop (a+1)++List.replicate (a+1-a) 0).map (Value.int .i64)))=w5 at *
     go_wp2
     go_roundg gh
     case rel=>exact⟨i+1,by go_num,by have:=Hi.out;omega,rfl,by rw[HLe.out];exact HL3,by rw[HPe.out];exact HP3,HB3⟩
     case measure=>omega
end Go.Proofs.YtneafcdfnhnpnaaGreatDoor
namespace Go.Proofs.YtneafcdfnhnpnaaGreatDoor
open Go.RowKit Go.Lib
theorem Vc (x n k j:Nat) (hk:k≤n) (hj:n-k≤j) (hjn:j<n):(kg x n k)[j]? =some ((qr x (n-1-j)%(n-j):Nat):Int):=by
 induction k with
 | zero=>omega
 | succ k ih=>
  unfold kg;by_cases he:n-1-k=j
  ·subst he
   rw[List.getElem?_set_self (by rw[y8];omega)];rw[show n-1-(n-1-k)=k by omega,show n-(n-1-k)=k+1 by omega]
  ·rw[List.getElem?_set_ne he]
   exact ih (by omega) (by omega)
theorem YM (x n:Nat):Ya (kg x n n):=by
 intro k hk;rw[y8] at hk ⊢;rw[Vc x n n k (Nat.le_refl _) (by omega) hk];have:=Nat.mod_lt (qr x (n-1-k)) (show 0<n-k by omega);simp only[Option.getD_some];omega
def qe (n:Int) (l:List UInt8):Int:=
 if ¬(0≤n∧n≤256) then 3 else if (jn l).1≠0 then (jn l).1
 else if (jn l).2.num<0∨(jn l).2.den≠1 then 3 else if qr (jn l).2.num.natAbs n.toNat≠0 then 3 else 0
def G2 (n:Int) (l:List UInt8) (w:World) (e:Ending) (w':World):Prop:=
 Below w.heap.size w w'∧((qe n l=0 ∧ ∃g,e = .returned (.tuple #[.slice (some ⟨g,0,none⟩) n.toNat n.toNat,.int .i64 0])∧w.heap.size≤g∧ja w' g 3 (jc (jT (kg (jn l).2.num.natAbs n.toNat n.toNat) n.toNat).1)) ∨
  (qe n l≠0∧e = .returned (.tuple #[.slice none 0 0,.int .i64 (qe n l)])))
theorem Ye (n:Int) (l:List UInt8) (w:World) (hl:l.length<4294967281) (hG:jH w) (hD:ql l.length) (hF:jl (jn l).2.num.natAbs):
  Calls Tryz.prog 59 #[.int .i64 n,.string ⟨l.toArray⟩] w (G2 n l w):=by
 have RD:=hid (WW l w hl hG hD);have HF:=hid hF;clear hl hG hD hF;by_cases hn:0≤n∧n≤256
 ·obtain⟨m,rfl⟩:=Int.eq_ofNat_of_zero_le hn.1
  have hm:m≤256:=by omega
  have HW:Hid (qi (m:Int) 0 256=0):=hid (by unfold qi;rw[if_pos hn])
  have HC:Hid (qe (m:Int) l=if (jn l).1≠0 then (jn l).1 else if (jn l).2.num<0∨(jn l).2.den≠1 then 3 else if qr (jn l).2.num.natAbs m≠0 then 3 else 0):=hid (by
   unfold qe;rw[if_neg (by simpa using hn)];rfl)
  have HT:Hid ((m:Int).toNat=m):=hid (by simp);clear hn;unfold G2;rw[HT.out];generalize hrr:jn l=rr at *;obtain⟨code,q⟩:=rr;dsimp only at HC HF ⊢;clear hrr;go_enter Tryz.func59,Tryz.ntmps59
  go_wp2_with (go_at_call 132;refine(XU _ _ _ _).mono ?_;rintro e w' ⟨rfl,rfl⟩;rw[HW.out])
  by_cases hc:code=0
  ·have RD2:Hid (Calls Tryz.prog 102 #[.string ⟨l.toArray⟩] w (Jb q w)):=hid (RD.out.mono fun e w' h=>by unfold ze at h;rw[if_pos hc] at h;exact h)
   have HC2:Hid (qe (m:Int) l=if q.num<0∨q.den≠1 then 3 else if qr q.num.natAbs m≠0 then 3 else 0):=hid (by rw[HC.out,if_neg (by simpa using hc)]);clear hc RD HC;refine RD2.out.mono ?_;clear RD2;rintro e w1 ⟨v,rfl,hv,hB1⟩;obtain⟨nv,dv,rfl,hnv,hdv⟩:=hv;obtain⟨A1,n1,k1,rfl,_⟩:=hnv.size_;obtain⟨A2,n2,k2,rfl,_⟩:=hdv.size_;have Hn:=hid hnv;have Hd:=hid hdv;clear hnv hdv;have hs1:=hB1.size;by_cases hneg:q.num<0
   ·have HR:Hid (qe (m:Int) l=3):=hid (by rw[HC2.out,if_pos (.inl hneg)])
    have hde:decide (q.num<0)=true:=by simpa using hneg
    rw[hde];clear hneg hde
    go_wp2
    go_ret2;exact⟨hB1.alloc hs1 _,.inr ⟨by rw[HR.out];decide,by rw[HR.out];rfl⟩⟩
   ·have hde:decide (q.num<0)=false:=by simpa using hneg
    have Hneg:=hid hneg;rw[hde];clear hneg hde;have hal:Below w1.heap.size w1 (w1.alloc (.cells #[.bool false,.slice A1 n1 k1,.slice A2 n2 k2] 122)):=(Below.refl _ _).alloc (Nat.le_refl _) _;by_cases hden:q.den=1
    ·have Hden:=hid (decide_eq_true hden)
     have HC3:Hid (qe (m:Int) l=if qr q.num.natAbs m≠0 then 3 else 0):=hid (by rw[HC2.out,if_neg (by rintro (h | h);exact Hneg.out h;exact h hden)]);clear hden HC2
     go_wp2_with (go_at_call 139;refine(kS _ _ _ (Hd.out.below hal)).mono ?_;rintro e w' ⟨rfl,rfl⟩;rw[Hden.out])
     refine(Te _ _ m _ (Hn.out.below hal) HF.out hm).mono ?_;rintro e w2 ⟨u,r,rfl,hu,hr,hB2⟩;have HB2:=hid ((hB1.alloc hs1 (.cells #[.bool false,.slice A1 n1 k1,.slice A2 n2 k2] 122)).trans (hB2.mono (by simp;omega)));have Hu:=hid hu;by_cases hrest:qr q.num.natAbs m=0
     ·have HC4:Hid (qe (m:Int) l=0):=hid (by rw[HC3.out,if_neg (by simpa using hrest)])
      rw[hrest] at hr;obtain⟨A3,k3,rfl⟩:=Nt.zero_len hr;have PK:=hid (D7 u _ w2 hu (YM _ _) (by rw[y8];exact hm));clear hu hr hB2 hrest HC3
      go_wp2_with fail
      refine PK.out.mono ?_;clear PK;rintro e w3 ⟨g,rfl,hg,hO,hB3⟩;rw[y8] at hO ⊢;have HO:=hid hO;have HB3:=hid (HB2.out.trans (hB3.mono HB2.out.size));have HG:=hid (Nat.le_trans HB2.out.size hg);clear hO hB3 hg
      go_wp2
      go_ret2;exact⟨HB3.out,.inl ⟨HC4.out,g,rfl,HG.out,HO.out⟩⟩
     ·have HC4:Hid (qe (m:Int) l=3):=hid (by rw[HC3.out,if_pos hrest])
      obtain⟨A3,n3,k3,rfl,hn3,_⟩:=hr.pos_len hrest;clear hu hr hB2 hrest HC3
      go_wp2
      go_ret2;exact⟨HB2.out,.inr ⟨by rw[HC4.out];decide,by rw[HC4.out];rfl⟩⟩
    ·have Hden:=hid (decide_eq_false hden)
     have HR:Hid (qe (m:Int) l=3):=hid (by rw[HC2.out,if_pos (.inr hden)]);clear hden HC2
     go_wp2_with (go_at_call 139;refine(kS _ _ _ (Hd.out.below hal)).mono ?_;rintro e w' ⟨rfl,rfl⟩;rw[Hden.out])
     go_ret2;exact⟨hB1.alloc hs1 _,.inr ⟨by rw[HR.out];decide,by rw[HR.out];rfl⟩⟩
  ·have RD2:Hid (Calls Tryz.prog 102 #[.string ⟨l.toArray⟩] w (kZ code w)):=hid (RD.out.mono fun e w' h=>by unfold ze at h;rw[if_neg hc] at h;exact h)
   have HC2:Hid (qe (m:Int) l=code):=hid (by rw[HC.out,if_pos hc])
   have hcb:(code != 0)=true:=by simpa using hc
   have Hc:=hid hc;clear hc RD HC;refine RD2.out.mono ?_;clear RD2;rintro e w1 ⟨rfl,hB1⟩;unfold jY;have hs1:=hB1.size
   go_wp2
   go_ret2;exact⟨hB1.alloc hs1 _,.inr ⟨by rw[HC2.out];exact Hc.out,by rw[HC2.out];rfl⟩⟩
 ·have HC:Hid (qe n l=3):=hid (by unfold qe;rw[if_pos hn])
  have HW:Hid (qi n 0 256=3):=hid (by unfold qi;rw[if_neg hn]);clear hn RD HF;go_enter Tryz.func59,Tryz.ntmps59
  go_wp2_with (go_at_call 132;refine(XU _ _ _ _).mono ?_;rintro e w' ⟨rfl,rfl⟩;rw[HW.out])
  go_ret2;exact⟨Below.refl _ _,.inr ⟨by rw[HC.out];decide,by rw[HC.out];rfl⟩⟩
def Q7 (x:Nat):Bool:=decide (x<WB)
theorem YO {x:Nat} (h:Q7 x=true):jl x:= .small (of_decide_eq_true h)
def xE (q:Rat):Bool:=Q7 q.num.natAbs&&Q7 q.den
theorem yb {q:Rat} (h:xE q=true):kA q:=by
 unfold xE at h;rw[Bool.and_eq_true] at h;exact⟨YO h.1,YO h.2⟩
def KQ (p q:Rat):Bool:=xE p&&xE q&&Q7 (p.num.natAbs*q.den+q.num.natAbs*p.den)
theorem YP {p q:Rat} (h:KQ p q=true):xM p q:=by
 unfold KQ at h;rw[Bool.and_eq_true,Bool.and_eq_true] at h;exact⟨yb h.1.1,yb h.1.2,YO h.2⟩
def Ym (o:Nat) (L P:List Rat):Bool:=
 xE (L[o]?.getD 0)&&(List.range L.length).all fun j=>decide (j<o)||(xE (P[j]?.getD 0)&&KQ (L[j]?.getD 0) (L[o]?.getD 0*P[j]?.getD 0))
theorem RG {o:Nat} {L P:List Rat} (h:Ym o L P=true):Qy o L P:=by
 unfold Ym at h;rw[Bool.and_eq_true] at h;refine⟨yb h.1,fun j hj hl=> ?_⟩;have:=List.all_eq_true.1 h.2 j (List.mem_range.2 hl);rw[Bool.or_eq_true,Bool.and_eq_true] at this;rcases this with h1 | h1
 ·have:=of_decide_eq_true h1;omega
 ·exact⟨yb h1.1,YP h1.2⟩
def ZH (row col:Nat) (S:jP Rat):Bool:=
 (xJ (qp row S) S.cols.length).all xE &&
 (List.range (elDiv jm row col S).length).all fun i=>decide (i=S.cols.length)||match (elDiv jm row col S)[i]? with
  | none=>true
  | some r=>Ym col r.2.2 (xJ (elDiv jm row col S) S.cols.length)
theorem C3 {row col:Nat} {S:jP Rat} (h:ZH row col S=true):zR row col S:=by
 unfold ZH at h;rw[Bool.and_eq_true] at h;refine⟨fun x hx=>yb (List.all_eq_true.1 h.1 x hx),fun i r hi hne=> ?_⟩;have:=List.all_eq_true.1 h.2 i (List.mem_range.2 (List.getElem?_eq_some_iff.1 hi).1);rw[Bool.or_eq_true,hi] at this;rcases this with h1 | h1
 ·exact absurd (of_decide_eq_true h1) hne
 ·exact RG h1
def Q3 (n:Nat):Nat→Nat→jP Rat→Bool
 | 0,_,_=>true
 | k+1,fr,S=>match qN jm S.rows S.cols.length (n-fr) fr with
  | none=>true
  | some (row,col)=>ZH row col S&&Q3 n k (col+1) (kW jm row col S)
theorem U7 {n:Nat} :∀(k fr:Nat) (S:jP Rat),Q3 n k fr S=true→qT n k fr S
 | 0,_,_,_=>trivial
 | k+1,fr,S,h=>by
  unfold qT;unfold Q3 at h;split
  ·trivial
  ·rename_i row col hp
   rw[hp] at h;simp only[Bool.and_eq_true] at h;exact⟨C3 h.1,U7 k _ _ h.2⟩
def Xp (n:Nat) (M:List (List Rat)):Bool:=Q3 n M.length 0 ⟨JX M,[],[],false⟩
theorem Zi {n:Nat} {M:List (List Rat)} (h:Xp n M=true):zq n M:=U7 _ _ _ h
def Vi (S:jP Rat):Bool:=S.rows.all fun r=>r.2.2.all xE
theorem Ti {S:jP Rat} (h:Vi S=true):xy S:=fun r hr x hx=>yb (List.all_eq_true.1 (List.all_eq_true.1 h r hr) x hx)
def YV (n:Nat) (M:List (List Rat)):Bool:=Xp n (M.map List.reverse)&&Vi (kY jm n (M.map List.reverse))
theorem Nl {n:Nat} {M:List (List Rat)} (h:YV n M=true):Ua n M:=by
 unfold YV at h;rw[Bool.and_eq_true] at h;exact⟨Zi h.1,Ti h.2⟩
def ZE (n:Nat) (M:List (List Rat)) (b:List Rat):Bool:=Xp (n+1) (xV M b)&&(JI n M b).all xE
theorem CT {n:Nat} {M:List (List Rat)} {b:List Rat} (h:ZE n M b=true):Ug n M b:=by
 unfold ZE at h;rw[Bool.and_eq_true] at h;exact⟨Zi h.1,fun q hq=>yb (List.all_eq_true.1 h.2 q hq)⟩
def Yz (n:Nat) (M:List (List Rat)):Bool:=
 Xp n M&&((List.range (kY jm n M).piv.length).all fun k=>xE (qA (kY jm n M) k)&&xE ((kY jm n M).piv[k]?.getD 0))&&xE (yF n M)
theorem So {n:Nat} {M:List (List Rat)} (h:Yz n M=true):Z8 n M:=by
 unfold Yz at h;rw[Bool.and_eq_true,Bool.and_eq_true] at h;refine⟨Zi h.1.1,fun k hk=> ?_,yb h.2⟩;have:=List.all_eq_true.1 h.1.2 k (List.mem_range.2 hk);rw[Bool.and_eq_true] at this;exact⟨yb this.1,yb this.2⟩
def Ww (L P:List Rat):Bool:=(List.range L.length).all fun k=>xE (L[k]?.getD 0)&&xE (P[k]?.getD 0)&&KQ (xI L P k) (L[k]?.getD 0*P[k]?.getD 0)
theorem An {L P:List Rat} (h:Ww L P=true):Yb L P:=fun k hk=>by
 have:=List.all_eq_true.1 h k (List.mem_range.2 hk);rw[Bool.and_eq_true,Bool.and_eq_true] at this;exact⟨yb this.1.1,yb this.1.2,YP this.2⟩
def W6 (n:Nat) (V:List (List Rat)) (b y:List Rat):Bool:=
 (List.range (n+1)).all fun j=>Ww ((yK n V b)[j]?.getD []) y&&KQ (xI ((yK n V b)[j]?.getD []) y V.length) ((Qg n)[j]?.getD 0)
theorem BK {n:Nat} {V:List (List Rat)} {b y:List Rat} (h:W6 n V b y=true):Ue n V b y:=fun j hj=>by
 have:=List.all_eq_true.1 h j (List.mem_range.2 hj);rw[Bool.and_eq_true] at this;exact⟨An this.1,YP this.2⟩
def zx:List (List jB):=[[[49],[50],[51]],[[50],[52],[55]]]
def QD:List jB:=[[52],[57]]
def KA:List (List jB):=[[[49],[50]],[[51],[52]]]
def QF:List (List jB):=[[[49],[49]],[[50],[50]]]
def QE:List jB:=[[49],[51]]
def QH:List jB:=[[45,50],[49]]
theorem Ef:ko zx=0:=by decide +kernel
theorem QG:zx.map ju=[[1,2,3],[2,4,7]]:=by decide +kernel
theorem Eg:qq zx QD=0:=by decide +kernel
theorem Ui:ju QD=[4,9]:=by decide +kernel
theorem Eh:ko KA=0:=by decide +kernel
theorem Uj:KA.map ju=[[1,2],[3,4]]:=by decide +kernel
theorem Ei:qq QF QE=0:=by decide +kernel
theorem Ej:qX QH 2=0:=by decide +kernel
theorem Uk:QF.map ju=[[1,1],[2,2]]:=by decide +kernel
theorem Ul:ju QE=[1,3]:=by decide +kernel
theorem Um:ju QH=[-2,1]:=by decide +kernel
theorem Ec:YV 3 [[1,2,3],[2,4,7]]=true:=by decide +kernel
theorem Ed:KY 3 [[1,2,3],[2,4,7]]=[[1,-1/2,0]]:=by decide +kernel
theorem Ee:yS [[1,-1/2,0]]:=by
 intro L hL q hq;simp only[List.mem_singleton] at hL;subst hL;simp only[List.mem_cons,List.not_mem_nil,or_false] at hq;rcases hq with rfl | rfl | rfl <;> decide +kernel
theorem Ek:ZE 3 [[1,2,3],[2,4,7]] [4,9]=true:=by decide +kernel
theorem Em:JI 3 [[1,2,3],[2,4,7]] [4,9]=[1,0,1]:=by decide +kernel
theorem En:3 ∉ (Qn 3 [[1,2,3],[2,4,7]] [4,9]).cols:=by decide +kernel
theorem M8:Yz 2 [[1,2],[3,4]]=true:=by decide +kernel
theorem M9:yF 2 [[1,2],[3,4]] = -2:=by decide +kernel
theorem Ea:W6 2 [[1,1],[2,2]] [1,3] [-2,1]=true:=by decide +kernel
theorem Eb:Kz 2 [[1,1],[2,2]] [1,3] [-2,1]:=by
 intro j hj;rcases j with _ | _ | _ | j
 ·decide +kernel
 ·decide +kernel
 ·decide +kernel
 ·omega
theorem YG {α:Type} [DecidableEq α] {p q:List α} {k:Nat} (hk:k<p.length) (hl:p.length=q.length) (h:(decide (p.drop k=q.drop k))=decide (p=q)) (he:p[k]? =q[k]?):decide (p.drop (k+1)=q.drop (k+1))=decide (p=q):=by
 have hq:k<q.length:=by omega
 rw[List.getElem?_eq_getElem hk,List.getElem?_eq_getElem hq] at he;have he:=Option.some.inj he;have e1:p.drop k=p[k]::p.drop (k+1):=List.drop_eq_getElem_cons hk;have e2:q.drop k=q[k]::q.drop (k+1):=List.drop_eq_getElem_cons hq;rw[←h,e1,e2,he];exact decide_eq_decide.mpr ⟨fun h=>by rw[h],fun h=>(List.cons.inj h).2⟩
theorem YF {α:Type} [DecidableEq α] {p q:List α} {k:Nat} (he:p[k]? ≠q[k]?):decide (p=q)=false:=by
 simp only[decide_eq_false_iff_not];intro h;subst h;exact he rfl
theorem BU (v u:Value) (P Q:List (List Int)) (w:World) (hv:qE w v P) (hu:qE w u Q):
  Calls Tryz.prog 54 #[v,u] w fun e w'=>e = .returned (.bool (decide (P=Q)))∧Below w.heap.size w w':=by
 obtain⟨vs,hvs,hvl,hvr⟩:=hv;obtain⟨us,hus,hul,hur⟩:=hu;obtain⟨A,c,rfl,hc1,hc2⟩:=hvs.form;obtain⟨B,d,rfl,gc1,gc2⟩:=hus.form;rw[hvl] at hvs hc1 hc2;rw[hul] at hus gc1 gc2
 obtain⟨r,hr⟩:∃r,decide (P=Q)=r:=⟨_,rfl⟩
 have HR:=hid hr;rw[hr,hvl,hul];by_cases hl:P.length=Q.length
 ·have hb:((P.length:Int) != (Q.length:Int))=false:=by rw[hl];simp
  have HL:=hid hl;have HVR:=hid hvr;have HUR:=hid hur;clear hr hl hvr hur;go_enter Tryz.func54,Tryz.ntmps54
  go_wp2_with fail
  go_loopg [5] P.length (fun g i wr=>∃(k:Nat),k+g=P.length∧i = .int .i64 k∧Hid (decide (P.drop k=Q.drop k)=decide (P=Q))∧Below w.heap.size w wr)
  case atStart=>exact⟨0,by omega,rfl,hid rfl,Below.refl _ _⟩
  case round=>
   obtain⟨k,hk,rfl,hD,hB⟩:=hrel
   cases gk with
   | zero=>
    have hin:¬((k:Int)<(P.length:Int)):=by omega
    have HT:Hid (r=true):=hid (by
     rw[←HR.out,←hD.out,List.drop_eq_nil_of_le (by omega),List.drop_eq_nil_of_le (by have:=HL.out;omega)];rfl)
    clear hk
    go_wp2
    go_ret;exact⟨by rw[HT.out];rfl,hB⟩
   | succ g=>
    have hlt:k<P.length:=by omega
    have hlq:k<Q.length:=by have:=HL.out;omega
    obtain⟨v1,hv1,hs1⟩:=HVR.out k _ (List.getElem?_eq_getElem hlt);obtain⟨u1,hu1,ht1⟩:=HUR.out k _ (List.getElem?_eq_getElem hlq);obtain⟨b1,off1,rfl,hbb1,hcell1⟩:=hvs.at_ (k:=k) (by rw[hvl];omega);obtain⟨b2,off2,rfl,hbb2,hcell2⟩:=hus.at_ (k:=k) (by rw[hul];omega);have hck1:=(hB.cell (p:=⟨b1,off1+k,none⟩) hbb1).trans ((hcell1 k (by rw[hvl];omega)).trans hv1);have hck2:=(hB.cell (p:=⟨b2,off2+k,none⟩) hbb2).trans ((hcell2 k (by rw[hul];omega)).trans hu1);have Hstep:=hid (fun he=>YG hlt HL.out hD.out he);have Hdiff:=hid (fun he=>YF (p:=P) (q:=Q) (k:=k) he);rw[List.getElem?_eq_getElem hlt,List.getElem?_eq_getElem hlq] at Hstep Hdiff;have Hk:=hid hk;have hbl1:=Nat.lt_of_lt_of_le hbb1 hB.size;have hbl2:=Nat.lt_of_lt_of_le hbb2 hB.size;have SI:=hid (fun (W:World) (hb:Below wr.heap.size wr W)=>Zw v1 u1 P[k] Q[k] W ((hs1.below hB).below hb) ((ht1.below hB).below hb))
    have KS:Hid (∀z,Below wr.heap.size wr z→z.cell? ⟨b1,off1+k,none⟩=some v1∧z.cell? ⟨b2,off2+k,none⟩=some u1∧Below wr.heap.size wr z):=hid (fun z hb=>
     ⟨(hb.cell (p:=⟨b1,off1+k,none⟩) hbl1).trans hck1,(hb.cell (p:=⟨b2,off2+k,none⟩) hbl2).trans hck2,hb⟩)
    have KT:=hid (fun (x x':World) (hb:Below x.heap.size x x') (h5:Below wr.heap.size wr x)=>KS.out x' (h5.trans (hb.mono h5.size)));have HB:=hid hB;clear hcell1 hcell2 hvs hus hk hs1 ht1 hv1 hu1 hB hD;generalize P[k]=x at *;generalize Q[k]=y at *
    obtain⟨bb,hbb⟩:∃bb,decide (x=y)=bb:=⟨_,rfl⟩
    rw[hbb] at SI
    cases bb with
    | true=>
     have Hs:=hid (Hstep.out (by rw[of_decide_eq_true hbb]));clear hbb Hstep Hdiff
     go_wp2
     go_region_held3 (fun z=>z.cell? ⟨b1,off1+k,none⟩=some v1∧z.cell? ⟨b2,off2+k,none⟩=some u1∧Below wr.heap.size wr z)
      (first | exact KS.out _ (Below.refl _ _).drew | exact KT.out _ _ (by assumption) (by assumption))
      (first | (go_at_call 93;go_split_ands;refine(SI.out _ (by assumption)).mono ?_;rintro e4 w4 ⟨rfl,hB4⟩))
     have hB':Below w.heap.size w w4:=by go_split_ands;exact HB.out.trans (by rename_i h;exact h.mono HB.out.size)
     go_wp2
     go_roundg g
     case rel=>exact⟨k+1,by have:=Hk.out;omega,by go_num,Hs,hB'⟩
     case measure=>omega
    | false=>
     have Hs:=hid (Hdiff.out (fun h=>of_decide_eq_false hbb (Option.some.inj h)));clear hbb Hstep Hdiff;have HF:Hid (r=false):=hid (by rw[←HR.out];exact Hs.out)
     go_wp2
     go_region_held3 (fun z=>z.cell? ⟨b1,off1+k,none⟩=some v1∧z.cell? ⟨b2,off2+k,none⟩=some u1∧Below wr.heap.size wr z)
      (first | exact KS.out _ (Below.refl _ _).drew | exact KT.out _ _ (by assumption) (by assumption))
      (first | (go_at_call 93;go_split_ands;refine(SI.out _ (by assumption)).mono ?_;rintro e4 w4 ⟨rfl,hB4⟩))
     have hB':Below w.heap.size w w4:=by go_split_ands;exact HB.out.trans (by rename_i h;exact h.mono HB.out.size)
     go_wp2
     go_ret;exact⟨by rw[HF.out];rfl,hB'⟩
 ·have hb:((P.length:Int) != (Q.length:Int))=true:=by simpa using (by omega:¬(P.length:Int)=Q.length)
  have hne:P≠Q:=by intro h;subst h;exact hl rfl
  have HF:Hid (r=false):=hid (by rw[←hr];simpa using hne);clear hr hne hl;go_enter Tryz.func54,Tryz.ntmps54
  go_wp2
  go_ret;exact⟨by rw[HF.out];rfl,Below.refl _ _⟩
theorem SW {p q:List jB} {k:Nat} (hk:k<p.length) (hl:p.length=q.length) (h:(decide (p.drop k=q.drop k))=decide (p=q)) (he:p[k]?.getD []=q[k]?.getD []):decide (p.drop (k+1)=q.drop (k+1))=decide (p=q):=by
 have hq:k<q.length:=by omega
 refine YG hk hl h ?_;rw[List.getElem?_eq_getElem hk,List.getElem?_eq_getElem hq] at he ⊢;simp only[Option.getD_some] at he;rw[he]
theorem SU {p q:List jB} {k:Nat} (he:p[k]?.getD []≠q[k]?.getD []):decide (p=q)=false:=
 YF (k:=k) (fun h=>he (by rw[h]))
theorem W8 (v u:Value) (p q:List jB) (w:World) (hv:jE w v (jR p)) (hu:jE w u (jR q)):
  Calls Tryz.prog 101 #[v,u] w fun e w'=>e = .returned (.bool (decide (p=q)))∧Below w.heap.size w w':=by
 obtain⟨A,c,rfl,hc1,hc2⟩:=hv.form;obtain⟨B,d,rfl,gc1,gc2⟩:=hu.form;simp only[xr] at hc1 hc2 hv gc1 gc2 hu ⊢
 obtain⟨r,hr⟩:∃r,decide (p=q)=r:=⟨_,rfl⟩
 have HR:=hid hr;rw[hr];by_cases hl:p.length=q.length
 ·have hb:((p.length:Int) != (q.length:Int))=false:=by rw[hl];simp
  have HL:=hid hl;clear hr hl;go_enter Tryz.func101,Tryz.ntmps101
  go_wp2_with fail
  go_loopg [5] p.length (fun g i wr=>∃(k:Nat),k+g=p.length∧i = .int .i64 k∧Hid (decide (p.drop k=q.drop k)=decide (p=q))∧Below w.heap.size w wr)
  case atStart=>exact⟨0,by omega,rfl,hid rfl,Below.refl _ _⟩
  case round=>
   obtain⟨k,hk,rfl,hD,hB⟩:=hrel
   cases gk with
   | zero=>
    have hin:¬((k:Int)<(p.length:Int)):=by omega
    have HT:Hid (r=true):=hid (by
     rw[←HR.out,←hD.out,List.drop_eq_nil_of_le (by omega),List.drop_eq_nil_of_le (by have:=HL.out;omega)];rfl)
    clear hk
    go_wp2
    go_ret;exact⟨by rw[HT.out];rfl,hB⟩
   | succ g=>
    have hlt:k<p.length:=by omega
    have hlq:k<q.length:=by have:=HL.out;omega
    obtain⟨b1,off1,rfl,hbb1,hcell1⟩:=hv.at_ (k:=k) (by rw[xr];omega);obtain⟨b2,off2,rfl,hbb2,hcell2⟩:=hu.at_ (k:=k) (by rw[xr];omega);have hck1:=(hB.cell (p:=⟨b1,off1+k,none⟩) hbb1).trans ((hcell1 k (by rw[xr];omega)).trans (XF p k hlt));have hck2:=(hB.cell (p:=⟨b2,off2+k,none⟩) hbb2).trans ((hcell2 k (by rw[xr];omega)).trans (XF q k hlq));have Hstep:=hid (fun he=>SW hlt HL.out hD.out he);have Hdiff:=hid (fun he=>SU (p:=p) (q:=q) (k:=k) he);have Hk:=hid hk;clear hcell1 hcell2 hv hu hk;generalize p[k]?.getD []=x at *;generalize q[k]?.getD []=y at *;unfold sv at hck1 hck2;by_cases he:x=y
    ·have Hs:=hid (Hstep.out he)
     have hxy:(x==y)=true:=by simpa using he
     clear he
     go_wp2
     go_quiet (fail)
     have hB':=below_drewN hB nq
     go_wp2
     go_roundg g
     case rel=>exact⟨k+1,by have:=Hk.out;omega,by go_num,Hs,hB'⟩
     case measure=>omega
    ·have Hs:=hid (Hdiff.out he)
     have hxy:(x==y)=false:=by simpa using he
     clear he;have HF:Hid (r=false):=hid (by rw[←HR.out];exact Hs.out)
     go_wp2
     go_quiet (fail)
     have hB':=below_drewN hB nq
     go_wp2
     go_ret;exact⟨by rw[HF.out];rfl,hB'⟩
 ·have hb:((p.length:Int) != (q.length:Int))=true:=by simpa using (by omega:¬(p.length:Int)=q.length)
  have hne:p≠q:=by intro h;subst h;exact hl rfl
  have HF:Hid (r=false):=hid (by rw[←hr];simpa using hne);clear hr hne hl;go_enter Tryz.func101,Tryz.ntmps101
  go_wp2
  go_ret;exact⟨by rw[HF.out];rfl,Below.refl _ _⟩
theorem BT (v u:Value) (P Q:List (List jB)) (w:World) (hv:ku w v P) (hu:ku w u Q):
  Calls Tryz.prog 99 #[v,u] w fun e w'=>e = .returned (.bool (decide (P=Q)))∧Below w.heap.size w w':=by
 obtain⟨vs,hvs,hvl,hvr⟩:=hv;obtain⟨us,hus,hul,hur⟩:=hu;obtain⟨A,c,rfl,hc1,hc2⟩:=hvs.form;obtain⟨B,d,rfl,gc1,gc2⟩:=hus.form;rw[hvl] at hvs hc1 hc2;rw[hul] at hus gc1 gc2
 obtain⟨r,hr⟩:∃r,decide (P=Q)=r:=⟨_,rfl⟩
 have HR:=hid hr;rw[hr,hvl,hul];by_cases hl:P.length=Q.length
 ·have hb:((P.length:Int) != (Q.length:Int))=false:=by rw[hl];simp
  have HL:=hid hl;have HVR:=hid hvr;have HUR:=hid hur;clear hr hl hvr hur;go_enter Tryz.func99,Tryz.ntmps99
  go_wp2_with fail
  go_loopg [5] P.length (fun g i wr=>∃(k:Nat),k+g=P.length∧i = .int .i64 k∧Hid (decide (P.drop k=Q.drop k)=decide (P=Q))∧Below w.heap.size w wr)
  case atStart=>exact⟨0,by omega,rfl,hid rfl,Below.refl _ _⟩
  case round=>
   obtain⟨k,hk,rfl,hD,hB⟩:=hrel
   cases gk with
   | zero=>
    have hin:¬((k:Int)<(P.length:Int)):=by omega
    have HT:Hid (r=true):=hid (by
     rw[←HR.out,←hD.out,List.drop_eq_nil_of_le (by omega),List.drop_eq_nil_of_le (by have:=HL.out;omega)];rfl)
    clear hk
    go_wp2
    go_ret;exact⟨by rw[HT.out];rfl,hB⟩
   | succ g=>
    have hlt:k<P.length:=by omega
    have hlq:k<Q.length:=by have:=HL.out;omega
    obtain⟨v1,hv1,hs1⟩:=HVR.out k _ (List.getElem?_eq_getElem hlt);obtain⟨u1,hu1,ht1⟩:=HUR.out k _ (List.getElem?_eq_getElem hlq);obtain⟨b1,off1,rfl,hbb1,hcell1⟩:=hvs.at_ (k:=k) (by rw[hvl];omega);obtain⟨b2,off2,rfl,hbb2,hcell2⟩:=hus.at_ (k:=k) (by rw[hul];omega);have hck1:=(hB.cell (p:=⟨b1,off1+k,none⟩) hbb1).trans ((hcell1 k (by rw[hvl];omega)).trans hv1);have hck2:=(hB.cell (p:=⟨b2,off2+k,none⟩) hbb2).trans ((hcell2 k (by rw[hul];omega)).trans hu1);have Hstep:=hid (fun he=>YG hlt HL.out hD.out he);have Hdiff:=hid (fun he=>YF (p:=P) (q:=Q) (k:=k) he);rw[List.getElem?_eq_getElem hlt,List.getElem?_eq_getElem hlq] at Hstep Hdiff;have Hk:=hid hk;have hbl1:=Nat.lt_of_lt_of_le hbb1 hB.size;have hbl2:=Nat.lt_of_lt_of_le hbb2 hB.size;have SI:=hid (fun (W:World) (hb:Below wr.heap.size wr W)=>W8 v1 u1 P[k] Q[k] W ((hs1.below hB).below hb) ((ht1.below hB).below hb))
    have KS:Hid (∀z,Below wr.heap.size wr z→z.cell? ⟨b1,off1+k,none⟩=some v1∧z.cell? ⟨b2,off2+k,none⟩=some u1∧Below wr.heap.size wr z):=hid (fun z hb=>
     ⟨(hb.cell (p:=⟨b1,off1+k,none⟩) hbl1).trans hck1,(hb.cell (p:=⟨b2,off2+k,none⟩) hbl2).trans hck2,hb⟩)
    have KT:=hid (fun (x x':World) (hb:Below x.heap.size x x') (h5:Below wr.heap.size wr x)=>KS.out x' (h5.trans (hb.mono h5.size)));have HB:=hid hB;clear hcell1 hcell2 hvs hus hk hs1 ht1 hv1 hu1 hB hD;generalize P[k]=x at *;generalize Q[k]=y at *
    obtain⟨bb,hbb⟩:∃bb,decide (x=y)=bb:=⟨_,rfl⟩
    rw[hbb] at SI
    cases bb with
    | true=>
     have Hs:=hid (Hstep.out (by rw[of_decide_eq_true hbb]));clear hbb Hstep Hdiff
     go_wp2
     go_region_held3 (fun z=>z.cell? ⟨b1,off1+k,none⟩=some v1∧z.cell? ⟨b2,off2+k,none⟩=some u1∧Below wr.heap.size wr z)
      (first | exact KS.out _ (Below.refl _ _).drew | exact KT.out _ _ (by assumption) (by assumption))
      (first | (go_at_call 101;go_split_ands;refine(SI.out _ (by assumption)).mono ?_;rintro e4 w4 ⟨rfl,hB4⟩))
     have hB':Below w.heap.size w w4:=by go_split_ands;exact HB.out.trans (by rename_i h;exact h.mono HB.out.size)
     go_wp2
     go_roundg g
     case rel=>exact⟨k+1,by have:=Hk.out;omega,by go_num,Hs,hB'⟩
     case measure=>omega
    | false=>
     have Hs:=hid (Hdiff.out (fun h=>of_decide_eq_false hbb (Option.some.inj h)));clear hbb Hstep Hdiff;have HF:Hid (r=false):=hid (by rw[←HR.out];exact Hs.out)
     go_wp2
     go_region_held3 (fun z=>z.cell? ⟨b1,off1+k,none⟩=some v1∧z.cell? ⟨b2,off2+k,none⟩=some u1∧Below wr.heap.size wr z)
      (first | exact KS.out _ (Below.refl _ _).drew | exact KT.out _ _ (by assumption) (by assumption))
      (first | (go_at_call 101;go_split_ands;refine(SI.out _ (by assumption)).mono ?_;rintro e4 w4 ⟨rfl,hB4⟩))
     have hB':Below w.heap.size w w4:=by go_split_ands;exact HB.out.trans (by rename_i h;exact h.mono HB.out.size)
     go_wp2
     go_ret;exact⟨by rw[HF.out];rfl,hB'⟩
 ·have hb:((P.length:Int) != (Q.length:Int))=true:=by simpa using (by omega:¬(P.length:Int)=Q.length)
  have hne:P≠Q:=by intro h;subst h;exact hl rfl
  have HF:Hid (r=false):=hid (by rw[←hr];simpa using hne);clear hr hne hl;go_enter Tryz.func99,Tryz.ntmps99
  go_wp2
  go_ret;exact⟨by rw[HF.out];rfl,Below.refl _ _⟩
def Uf {α:Type} (P:Program) (gf:Nat) (lb:Array Value) (xs:List α) (Pr:Nat→α→Value→World→Prop) (Kp:Nat→World→World→Prop) (W:World):Prop:=
 ∀(l:Nat) (J:List α→World→Prop),
  (∀pre A A',J pre A→jh W.heap.size A A'→J pre A') →
  (∀pre x post v A,xs=pre++x::post→J pre A→W.heap.size<A.heap.size→Pr W.heap.size x v A →
   YieldAt Fence.wide 2 P l #[v] A fun e A'=>e = .returned (.bool true)∧J (pre++[x]) A'∧Kp W.heap.size A A') →
  J [] W →
  CallsIn Fence.wide 3 P gf (#[.func (.yield l) #[] #[]]++lb) W fun e W'=>(∃v,e = .returned v)∧J xs W'
def E9 (b:Nat) (R:World→World→Prop) (A:World):Exit→Act→World→Prop
 | .normal,_,A'=>A'.heap[b]? =A.heap[b]? ∧A'.heap[b+1]? =A.heap[b+1]? ∧R A A'
 | _,_,_=>False
theorem Zs {α:Type} {P:Program} {g:Operand} {ps:Array Tmp} {assign body:Code} {Q:Exit→Act→World→Prop} {a:Act} {w:World} {gf:Nat} {lb:Array Value} {xs:List α} {Pr:Nat→α→Value→World→Prop} {Kp:Nat→World→World→Prop}
  (hg:a.eval g = .func (.func gf) #[] lb) (eg:∀args w,(callFunc gf args).run P w = .ok (.enter gf args) w)
  (hseq:∀W,Below w.heap.size w W→W.heap.size=w.heap.size+2→Uf P gf lb xs Pr Kp W) (hps:ps.size=1)
  (I:List α→World→Prop) (hI:∀pre A A',I pre A→jh (w.heap.size+2) A A'→I pre A') (hI2:∀pre A l o,I pre A→l=w.heap.size+1→l<A.heap.size→I pre (A.putObj l o))
  (hKt:∀A B C,Kp (w.heap.size+2) A B→Kp (w.heap.size+2) B C→Kp (w.heap.size+2) A C) (hKb:∀A o,w.heap.size+1<A.heap.size→Kp (w.heap.size+2) A (A.putObj (w.heap.size+1) o))
  (hPr:∀x v A o,w.heap.size+1<A.heap.size→Pr (w.heap.size+2) x v A→Pr (w.heap.size+2) x v (A.putObj (w.heap.size+1) o))
  (h0:∀o1 o2,I [] ((w.alloc o1).alloc o2)) (a₁:Value→Act)
  (hassign:∀(l:Nat) (v:Value) (W:World) (K:Act→World→Prop),K (a₁ v) W →
   assign.wpIn (Fence.wide.inRound l) 2 P (Exit.then K fun _ _ _=>False) { tmps:=(ps.zip #[v]).foldl (fun t (p,v)=>t.setIfInBounds p v) a.tmps,defers:=[] } W)
  (hbody:∀(l:Nat) pre x post v A,xs=pre++x::post→I pre A→w.heap.size+2<A.heap.size→Pr (w.heap.size+2) x v A →
   body.wpIn (Fence.wide.inRound l) 2 P (E9 w.heap.size (fun A A'=>I (pre++[x]) A'∧Kp (w.heap.size+2) A A') A) (a₁ v) A)
  (hdone:∀W,I xs W→W.heap[w.heap.size]? =some (.deferred (some []))→Q .normal { a with defers:= { target:= .collected w.heap.size,args:= #[] } ::a.defers } W):
  (Code.rangeFunc g ps assign body).wpIn Fence.wide 4 P Q a w:=by
 refine wpIn_rangeFunc fun fn hfn=> ?_
 generalize hrec:(fun st pe=>({ state:=st,pending:=pe,fn,tmps:=a.tmps,params:=ps,assign,body,defers:=w.heap.size } :Loop))=rec
 have hrec':∀st pe,rec st pe = { state:=st,pending:=pe,fn,tmps:=a.tmps,params:=ps,assign,body,defers:=w.heap.size } :=fun st pe=>by rw[←hrec]
 clear hrec
 obtain⟨W1,hW1⟩:∃W1,W1=(w.alloc (.deferred (some []))).alloc (.loop (rec .ready none)):=⟨_,rfl⟩
 have hs1:W1.heap.size=w.heap.size+2:=by rw[hW1];simp
 have hL1:W1.heap[w.heap.size+1]? =some (.loop (rec .ready none)):=by
  rw[hW1];have:=World.alloc_heap_new (w.alloc (.deferred (some []))) (.loop (rec .ready none));rwa [World.size_alloc] at this
 have hD1:W1.heap[w.heap.size]? =some (.deferred (some [])):=by
  rw[hW1];exact(Below.heap_alloc _ _ _ (by simp)).trans (World.alloc_heap_new w _)
 have hB1:Below w.heap.size w W1:=by rw[hW1];exact((Below.refl _ w).alloc (Nat.le_refl _) _).alloc (by simp) _
 have hI1:I [] W1:=by rw[hW1];exact h0 _ _
 refine⟨w.heap.size+1,[{ target:= .collected w.heap.size,args:= #[] }],W1,{ target:= .fn (.func gf) lb,args:= #[.func (.yield (w.heap.size+1)) #[] #[]] },W1,gf,
  #[.func (.yield (w.heap.size+1)) #[] #[]]++lb,W1,?_,?_,fun _ _=>trivial,?_,(fun h=>by cases h),?_⟩
 ·rw[hW1,hrec'];exact run_enterLoop_outer _ _ _ _ _
 ·simp only[resolve,hg]
  simp[go_sem]
 ·simp[invoke,go_sem,eg]
 have hq:=hseq W1 hB1 hs1 (w.heap.size+1) (fun pre A=>I pre A∧A.heap[w.heap.size+1]? =some (.loop (rec .ready none))∧A.heap[w.heap.size]? =some (.deferred (some [])));rw[hs1] at hq;refine(hq ?_ ?_ ⟨hI1,hL1,hD1⟩).mono ?_
 ·rintro pre A A' ⟨hi,hl,hd⟩ hb
  have h1:=(Array.getElem?_eq_some_iff.1 hl).1;exact⟨hI _ _ _ hi hb,(hb.block _ h1 (by omega)).trans hl,(hb.block _ (by omega) (by omega)).trans hd⟩
 ·rintro pre x post v A hx ⟨hi,hl,hd⟩ hlt hp
  have h1:=(Array.getElem?_eq_some_iff.1 hl).1;have hy:=run_yield (P:=P) (args:= #[v]) hl (by rw[hrec'];simp[hps]);rw[hrec'] at hy;refine⟨fn,_,assign,body,hy,roundIn_of_wpIn trivial (hassign _ v A _ ⟨_,run_beginRound hl (by rw[hrec']),?_⟩)⟩
  obtain⟨A2,hA2⟩:∃A2,A2=A.putObj (w.heap.size+1) (.loop { rec .ready none with state:= .busy }):=⟨_,rfl⟩
  have hl2:A2.heap[w.heap.size+1]? =some (.loop { rec .ready none with state:= .busy }):=by rw[hA2];exact World.putObj_heap_same h1
  have hd2:A2.heap[w.heap.size]? =some (.deferred (some [])):=by rw[hA2];exact(World.putObj_heap_other (by omega)).trans hd
  have hk2:Kp (w.heap.size+2) A A2:=by rw[hA2];exact hKb _ _ h1
  have hi2:I pre A2:=by rw[hA2];exact hI2 _ _ _ _ hi rfl h1
  have hp2:Pr (w.heap.size+2) x v A2:=by rw[hA2];exact hPr _ _ _ _ h1 hp
  have hs2:A2.heap.size=A.heap.size:=by rw[hA2];simp[World.putObj]
  rw[←hA2];refine wpIn_mono (hbody _ pre x post v A2 hx hi2 (by omega) hp2) ?_;rintro e a3 W3 hq3
  cases e with
  | normal=>
   obtain⟨q1,q2,hi3,hk3⟩:=hq3;have hl3:=q2.trans hl2;have h3:=(Array.getElem?_eq_some_iff.1 hl3).1;have hr:=run_endRound (P:=P) none hl3;refine⟨_,_,hr,rfl,⟨hI2 _ _ _ _ hi3 rfl h3,?_,(World.putObj_heap_other (by omega)).trans (q1.trans hd2)⟩,hKt _ _ _ (hKt _ _ _ hk2 hk3) (hKb _ _ h3)⟩;rw[World.putObj_heap_same h3,hrec'];rfl
  | ret=>exact hq3.elim
  | exit id=>exact hq3.elim
  | goto t=>exact hq3.elim
  | panic ch=>exact hq3.elim
  | outgrown=>exact hq3.elim
 ·rintro e W2 ⟨⟨v,rfl⟩,hi,hl,hd⟩
  have h1:=(Array.getElem?_eq_some_iff.1 hl).1;have he:=run_endLoop (P:=P) hl (by rw[hrec'];simp);rw[hrec'] at he;exact⟨none,_,he,hdone _ (hI2 _ _ _ _ hi rfl h1) ((World.putObj_heap_other (by omega)).trans hd)⟩
def kL (p:List Int):Nat→List Bool→Nat→List Int×List Bool
 | 0,s,_=>([],s)
 | f+1,s,i=>if s[i]?.getD true=true then ([],s) else ((i:Int)::(kL p f (s.set i true) (p[i]?.getD 0).toNat).1,(kL p f (s.set i true) (p[i]?.getD 0).toNat).2)
def jU (p:List Int):Nat→List (List Int)×List Bool
 | 0=>([],List.replicate p.length false)
 | k+1=>if (jU p k).2[k]?.getD true=true then jU p k else ((jU p k).1++[(kL p p.length (jU p k).2 k).1],(kL p p.length (jU p k).2 k).2)
def qF (p:List Int):List (List Int):=(jU p p.length).1
def JL (s:List Bool):Nat:=s.countP (· ==false)
theorem Ft (s:List Bool):JL s≤s.length:=List.countP_le_length
theorem ZS:∀(s:List Bool) (i:Nat),s[i]? =some false→JL (s.set i true)+1=JL s
 | [],i,h=>by simp at h
 | x::s,0,h=>by simp at h;subst h;simp[JL]
 | x::s,i+1,h=>by
  have:=ZS s i (by simpa using h);unfold JL at *;rw[List.set_cons_succ,List.countP_cons,List.countP_cons];omega
theorem Vm (p:List Int):∀(f:Nat) (s:List Bool) (i:Nat),(kL p f s i).2.length=s.length
 | 0,s,i=>rfl
 | f+1,s,i=>by
  rw[kL];split
  ·rfl
  ·simp[Vm p f]
theorem Tu (p:List Int) (f:Nat) (s:List Bool) (i:Nat) (h:s[i]?.getD true=true):kL p f s i=([],s):=by
 cases f with
 | zero=>rfl
 | succ f=>rw[kL,if_pos h]
theorem QS (p:List Int):∀k,(jU p k).2.length=p.length
 | 0=>by simp[jU]
 | k+1=>by
  rw[jU];split
  ·exact QS p k
  ·rw[Vm];exact QS p k
theorem UL (p:List Int) (k:Nat):∀m,∃t,(jU p (k+m)).1=(jU p k).1++t
 | 0=>⟨[],by simp⟩
 | m+1=>by
  obtain⟨t,ht⟩:=UL p k m;rw[←Nat.add_assoc,jU];split
  ·exact⟨t,ht⟩
  ·exact⟨t++[(kL p p.length (jU p (k+m)).2 (k+m)).1],by rw[ht];simp⟩
theorem Se (p:List Int) {k:Nat} (hk:k<p.length) (h:(jU p k).2[k]?.getD true=false):
  ∃post,qF p=(jU p k).1++(kL p p.length (jU p k).2 k).1::post:=by
 obtain⟨t,ht⟩:=UL p (k+1) (p.length-(k+1));rw[show k+1+(p.length-(k+1))=p.length by omega] at ht;unfold qF;rw[ht,jU,if_neg (by rw[h];decide)];exact⟨t,by simp⟩
