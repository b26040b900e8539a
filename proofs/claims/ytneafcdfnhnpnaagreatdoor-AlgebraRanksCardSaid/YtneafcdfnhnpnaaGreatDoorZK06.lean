/- Contracts: Gcd, Inverse, IsPrime. -/
import Derived.Test.YtneafcdfnhnpnaaGreatDoorZK05
set_option maxRecDepth 100000
set_option maxHeartbeats 2000000
namespace Go.Proofs.YtneafcdfnhnpnaaGreatDoor
open Go.RowKit
def far (a:Int):Prop:=a < -999999999∨999999999<a
instance (a:Int):Decidable (far a):=by unfold far;infer_instance
def qi (a l h:Int):Int:=if l≤a∧a≤h then 0 else 3
theorem XU (a l h:Int) (w:World):Calls Tryz.prog 132 #[.int .i64 a,.int .i64 l,.int .i64 h] w fun e w'=>e = .returned (.int .i64 (qi a l h))∧w=w':=by
 unfold qi;split
 ·exact ZW _ _ _ _ (by omega) (by omega)
 ·exact ZV _ _ _ _ (by omega)
theorem KF (a:Int) (w:World):Calls Tryz.prog 129 #[.int .i64 a] w fun e w'=>e = .returned (.int .i64 (qi a (-999999999) 999999999))∧w=w':=by
 unfold qi;split
 ·exact Rc _ _ (by omega) (by omega)
 ·exact Rb _ _ (by omega)
def TD (a b:Int) (w:World) (e:Ending) (w':World):Prop:=
 e=(if far a∨far b then .returned (.tuple #[.int .i64 0,.int .i64 3]) else .returned (.tuple #[.int .i64 (Int.gcd a b),.int .i64 0]))∧Below w.heap.size w w'
theorem Q6 (x y:Int) (w:World) (t:TypeId):
  Calls Tryz.prog 111 #[.slice (some ⟨w.heap.size,0,none⟩) 2 2] (w.alloc (.cells #[.int .i64 x,.int .i64 y] t)) fun e w'=>e = .returned (.int .i64 (k8 [x,y]))∧w.alloc (.cells #[.int .i64 x,.int .i64 y] t)=w':=
 Tn _ [x,y] _ (Sl.lit w t #[.int .i64 x,.int .i64 y] 2 rfl (by omega))
theorem MH (a b:Int) (w:World):
  Calls Tryz.prog 36 #[.int .i64 a,.int .i64 b] w (TD a b w):=by
 by_cases hf:far a∨far b
 ·have he:k8 [qi a (-999999999) 999999999,qi b (-999999999) 999999999]=3:=by
   unfold far at hf;unfold k8 k8 k8 qi;split <;> split <;> (try split) <;> omega
  have He:=Lib.hid he;clear he;have Hf:=Lib.hid hf;clear hf;go_enter Tryz.func36,Tryz.ntmps36
  go_wp2_with (first | (go_at_call 129;refine(KF _ _).mono ?_;rintro e w' ⟨rfl,rfl⟩) | (go_at_call 111;refine(Q6 _ _ _ _).mono ?_;rintro e w' ⟨rfl,rfl⟩;rw[He.out]))
  go_ret2;exact⟨by rw[if_pos Hf.out];rfl,(Below.refl _ _).alloc (Nat.le_refl _) _⟩
 ·have h1: -999999999≤a∧a≤999999999:=by unfold far at hf;omega
  have h2: -999999999≤b∧b≤999999999:=by unfold far at hf;omega
  have he:k8 [qi a (-999999999) 999999999,qi b (-999999999) 999999999]=0:=by
   unfold k8 k8 k8 qi;rw[if_pos h1,if_pos h2];rfl
  have hg:(Int.gcd a b:Int)≤999999999:=by
   by_cases h0:a=0
   ·subst h0;rw[Int.gcd_zero_left];omega
   ·have:=Int.gcd_le_natAbs_left b h0;omega
  have He:=Lib.hid he;clear he;have Hf:=Lib.hid hf;clear hf;obtain⟨h11,h12⟩:=h1;obtain⟨h21,h22⟩:=h2;go_enter Tryz.func36,Tryz.ntmps36
  go_wp2_with (first | (go_at_call 129;refine(KF _ _).mono ?_;rintro e w' ⟨rfl,rfl⟩) | (go_at_call 111;refine(Q6 _ _ _ _).mono ?_;rintro e w' ⟨rfl,rfl⟩;rw[He.out]) | (go_at_call 131;refine(VL _ _ (by omega) (by omega)).mono ?_;rintro e w' ⟨rfl,rfl⟩) | (go_at_call 130;refine(Qs _ _ _).mono ?_;rintro e w' ⟨rfl,n,rfl⟩))
  go_ret2;refine⟨?_,(below_drewN ((Below.refl _ _).alloc (Nat.le_refl _) _) n)⟩;rw[if_neg Hf.out];exact yL (by rw[IntWalk.wrap64_in _ (by unfold Int.gcd at hg;omega)];rfl) rfl
def Nd (a n:Int) (w:World) (e:Ending) (w':World):Prop:=
 (if far a∨n<1∨999999999<n then e = .returned (.tuple #[.int .i64 0,.int .i64 3])
  else if Int.gcd a n=1 then ∃x:Int,e = .returned (.tuple #[.int .i64 x,.int .i64 0])∧0≤x∧x<n∧n∣(x*a-1)
  else e = .returned (.tuple #[.int .i64 0,.int .i64 7]))∧Below w.heap.size w w'
theorem MK (a n:Int) (w:World):
  Calls Tryz.prog 39 #[.int .i64 a,.int .i64 n] w (Nd a n w):=by
 by_cases hf:far a∨n<1∨999999999<n
 ·have he:k8 [qi a (-999999999) 999999999,qi n 1 999999999]=3:=by
   unfold far at hf;unfold k8 k8 k8 qi;split <;> split <;> (try split) <;> omega
  have He:=Lib.hid he;clear he;have Hf:=Lib.hid hf;clear hf;go_enter Tryz.func39,Tryz.ntmps39
  go_wp2_with (first | (go_at_call 129;refine(KF _ _).mono ?_;rintro e w' ⟨rfl,rfl⟩) | (go_at_call 132;refine(XU _ _ _ _).mono ?_;rintro e w' ⟨rfl,rfl⟩) | (go_at_call 111;refine(Q6 _ _ _ _).mono ?_;rintro e w' ⟨rfl,rfl⟩;rw[He.out]))
  go_ret2;exact⟨by rw[if_pos Hf.out];rfl,(Below.refl _ _).alloc (Nat.le_refl _) _⟩
 ·have h1: -999999999≤a∧a≤999999999:=by unfold far at hf;omega
  have h2:1≤n∧n≤999999999:=by unfold far at hf;omega
  have he:k8 [qi a (-999999999) 999999999,qi n 1 999999999]=0:=by
   unfold k8 k8 k8 qi;rw[if_pos h1,if_pos h2];rfl
  have He:=Lib.hid he;clear he;have Hf:=Lib.hid hf;clear hf;obtain⟨h11,h12⟩:=h1;obtain⟨h21,h22⟩:=h2;go_enter Tryz.func39,Tryz.ntmps39
  go_wp2_with (first | (go_at_call 129;refine(KF _ _).mono ?_;rintro e w' ⟨rfl,rfl⟩) | (go_at_call 132;refine(XU _ _ _ _).mono ?_;rintro e w' ⟨rfl,rfl⟩) | (go_at_call 111;refine(Q6 _ _ _ _).mono ?_;rintro e w' ⟨rfl,rfl⟩;rw[He.out]) | fail)
  refine(Vx _ _ _ h21 (by omega)).mono ?_;rintro e w' ⟨⟨k,rfl⟩,h⟩
  rcases h with ⟨hg,x,rfl,hx0,hxn,hxd⟩ | ⟨hg,rfl⟩
  ·have Hg:=Lib.hid hg;clear hg
   go_wp2
   go_ret2;refine⟨?_,(below_drewN ((Below.refl _ _).alloc (Nat.le_refl _) _) k)⟩;rw[if_neg Hf.out,if_pos Hg.out];exact⟨x,rfl,hx0,hxn,hxd⟩
  ·have Hg:=Lib.hid hg;clear hg
   go_wp2
   go_ret2;refine⟨?_,(below_drewN ((Below.refl _ _).alloc (Nat.le_refl _) _) k)⟩;rw[if_neg Hf.out,if_neg Hg.out];rfl
def Zn (m:Int) (w:World) (e:Ending) (w':World):Prop:=
 (if 0≤m∧m≤999999999 then ∃b:Bool,e = .returned (.tuple #[.bool b,.int .i64 0])∧(b=true↔yr m)
  else e = .returned (.tuple #[.bool false,.int .i64 3]))∧w=w'
theorem ML (m:Int) (w:World):Calls Tryz.prog 42 #[.int .i64 m] w (Zn m w):=by
 by_cases hf:0≤m∧m≤999999999
 ·obtain⟨h1,h2⟩:=hf
  go_enter Tryz.func42,Tryz.ntmps42
  go_wp2_with (first | (go_at_call 132;refine(ZW _ _ _ _ h1 h2).mono ?_;rintro e w' ⟨rfl,rfl⟩) | (go_at_call 135;refine(TO _ _ h1 h2).mono ?_;rintro e w' ⟨b,rfl,hb,rfl⟩))
  go_ret2;exact⟨by rw[if_pos ⟨h1,h2⟩];exact⟨b,rfl,hb⟩,rfl⟩
 ·have h1:m<0∨999999999<m:=by omega
  have Hf:=Lib.hid hf;clear hf;go_enter Tryz.func42,Tryz.ntmps42
  go_wp2_with (first | (go_at_call 132;refine(ZV _ _ _ _ h1).mono ?_;rintro e w' ⟨rfl,rfl⟩))
  go_ret2;exact⟨by rw[if_neg Hf.out];rfl,rfl⟩
def xR (L:List Bool):List Value:=L.map Value.bool
theorem QI (L:List Bool) (k:Nat) (h:k<L.length):(xR L)[k]? =some (Value.bool (L[k]?.getD false)):=by simp[xR,h]
theorem Yi (L:List Bool) (k:Nat) (x:Bool):(xR L).set k (.bool x)=xR (L.set k x):=by simp[xR,List.map_set]
theorem jQ (L:List Int):(jc L).length=L.length:=by simp[jc]
theorem kh (L:List Int) (k:Nat) (h:k<L.length):(jc L)[k]? =some (Value.int .i64 (L[k]?.getD 0)):=by simp[jc,h]
theorem xF (L:List Int) (k:Nat) (x:Int):(jc L).set k (.int .i64 x)=jc (L.set k x):=by simp[jc,List.map_set]
theorem T5:(Tryz.prog.info? 4).map (fun i=>(i.zero,i.size,i.bytes))=some (some (.bool false),1,1):=by kernel_rfl
theorem yc:(Tryz.prog.info? 3).map (fun i=>(i.zero,i.size,i.bytes))=some (some (.int .i64 0),1,8):=by kernel_rfl
theorem Y1 (w:World) (n:Nat) (hn:n≤17592186044416):(Instr.makeSlice 154 (.int .i64 (n:Int)) (.int .i64 (n:Int))).run Tryz.prog w = .ok (.slice (some ⟨w.heap.size,0,none⟩) n n) (w.alloc (.cells (xR (List.replicate n false)).toArray 4)):=by
 have:=run_make_row' (P:=Tryz.prog) 154 4 (.bool false) 1 Tryz.underlying154 T5 rfl .i64 .i64 n (by omega) (by omega) w;rw[z7] at this;rw[this];simp[xR]
theorem Jx (w:World) (n:Nat) (hn:n≤17592186044416):(Instr.makeSlice 50 (.int .i64 (n:Int)) (.int .i64 (n:Int))).run Tryz.prog w = .ok (.slice (some ⟨w.heap.size,0,none⟩) n n) (w.alloc (.cells (jc (List.replicate n 0)).toArray 3)):=by
 have:=run_make_row' (P:=Tryz.prog) 50 3 (.int .i64 0) 8 Tryz.underlying50 yc rfl .i64 .i64 n (by omega) (by omega) w;rw[z7] at this;rw[this];simp[jc]
def yu (p:List Int):Prop:=(∀x∈p,0≤x∧x<p.length)∧p.Nodup
instance (p:List Int):Decidable (yu p):=by unfold yu;infer_instance
def ji (p:List Int):Int:=if 256<p.length then 5 else if yu p then 0 else 14
def xA (p:List Int) (L:List Bool) (k:Nat):Prop:=L.length=p.length∧(∀x∈p.take k,0≤x∧x<p.length)∧(p.take k).Nodup ∧ ∀j,j<p.length→(L[j]?.getD false=true↔(j:Int)∈p.take k)
theorem XO (p:List Int) (k:Nat) (h:k<p.length):p.take (k+1)=p.take k++[p[k]?.getD 0]:=by
 rw[List.take_add_one,List.getElem?_eq_getElem h];rfl
theorem xA.start (p:List Int):xA p (List.replicate p.length false) 0:=by
 refine⟨by simp,by simp,by simp,fun j hj=> ?_⟩;simp[hj]
theorem xA.step {p:List Int} {L:List Bool} {k x:Nat} (h:xA p L k) (hk:k<p.length) (hx:p[k]?.getD 0=(x:Int)) (hlt:x<p.length) (hs:L[x]?.getD false=false):xA p (L.set x true) (k+1):=by
 obtain⟨h1,h2,h3,h4⟩:=h
 have hni:(x:Int) ∉ p.take k:=by
  intro hm;have:=(h4 x hlt).2 hm;rw[hs] at this;cases this
 rw[xA,XO p k hk,hx];refine⟨by simp[h1],?_,?_,fun j hj=> ?_⟩
 ·intro y hy
  rcases List.mem_append.1 hy with hy | hy
  ·exact h2 y hy
  ·have:y=x:=by simpa using hy
   omega
 ·rw[List.nodup_append]
  refine⟨h3,by simp,?_⟩;intro a ha b hb
  have:b=x:=by simpa using hb
  rintro rfl;exact hni (this ▸ ha)
 ·by_cases hjx:j=x
  ·subst hjx;simp[h1,hlt]
  ·rw[List.mem_append]
   have:((L.set x true)[j]?.getD false)=L[j]?.getD false:=by simp[List.getElem?_set_ne (Ne.symm hjx)]
   rw[this,h4 j hj]
   simp;omega
theorem xA.bad {p:List Int} {L:List Bool} {k:Nat} (h:xA p L k) (hk:k<p.length) (hb:p[k]?.getD 0<0∨(p.length:Int)≤p[k]?.getD 0∨(0≤p[k]?.getD 0∧p[k]?.getD 0<p.length∧L[(p[k]?.getD 0).toNat]?.getD false=true)):¬yu p:=by
 rintro ⟨g1,g2⟩
 have hm:p[k]?.getD 0∈p:=by rw[List.getElem?_eq_getElem hk];exact List.getElem_mem hk
 have:=g1 _ hm
 rcases hb with hb | hb | ⟨b1,b2,b3⟩
 ·omega
 ·omega
 ·have hin:=(h.2.2.2 (p[k]?.getD 0).toNat (by omega)).1 b3
  rw[show ((p[k]?.getD 0).toNat:Int)=p[k]?.getD 0 from by omega] at hin
  have hsp:p=p.take k++(p[k]?.getD 0::p.drop (k+1)):=by
   rw[List.getElem?_eq_getElem hk];simp
  rw[hsp,List.nodup_append] at g2;exact g2.2.2 _ hin _ (by simp) rfl
theorem xA.good {p:List Int} {L:List Bool} (h:xA p L p.length):yu p:=by
 obtain⟨h1,h2,h3,h4⟩:=h;rw[List.take_of_length_le (Nat.le_refl _)] at h2 h3;exact⟨h2,h3⟩
theorem Qv (v:Value) (p:List Int) (w:World) (hv:Sl w 1 v (jc p)):
  Calls Tryz.prog 45 #[v] w fun e w'=>e = .returned (.int .i64 (ji p))∧Below w.heap.size w w':=by
 obtain⟨A,c,rfl,hc1,hc2⟩:=hv.form;rw[jQ] at hc1 hv ⊢;by_cases hl:256<p.length
 ·have he:=Lib.hid (show ji p=5 from by unfold ji;rw[if_pos hl])
  go_enter Tryz.func45,Tryz.ntmps45
  go_wp2
  go_ret;exact⟨by rw[he.out];rfl,Below.refl _ _⟩
 ·have hd:decide ((256:Int)<(p.length:Int))=false:=decide_eq_false (by omega)
  have hmk:=Y1 w p.length (by omega);go_enter Tryz.func45,Tryz.ntmps45
  go_wp2
  go_loopw [5,14] (fun _ i wr=>∃(k:Nat) (L:List Bool),i = .int .i64 k∧k≤p.length∧Hid (xA p L k)∧ja wr w.heap.size 4 (xR L)∧Below w.heap.size w wr) (fun _ i _=>p.length-(intOf i).toNat)
  case atStart=>exact⟨0,_,rfl,by omega,Lib.hid (xA.start p),ja.make _ _ _,(Below.refl _ _).alloc (Nat.le_refl _) _⟩
  case round=>
   obtain⟨k,L,rfl,hk,hI,hO,hB⟩:=hrel;have hLl:L.length=p.length:=hI.out.1;by_cases hlt:k<p.length
   ·obtain⟨b0,off,rfl,hbb,hcell⟩:=hv.at_ (k:=k) (by rw[jQ];omega)
    have hck:=(hB.cell (p:=⟨b0,off+k,none⟩) hbb).trans ((hcell k (by rw[jQ];omega)).trans (kh p k hlt))
    have Hbad:=fun h=>Lib.hid (hI.out.bad hlt h)
    have Hst:=fun (x:Nat) a b c=>Lib.hid (hI.out.step (x:=x) hlt a b c)
    generalize p[k]?.getD 0=x at *;clear hcell hv;by_cases h0:x<0
    ·have he:=Lib.hid (show ji p=14 from by unfold ji;rw[if_neg hl,if_neg (Hbad (.inl h0)).out])
     go_wp2
     go_ret;exact⟨by rw[he.out];rfl,hB⟩
    ·by_cases h1:(p.length:Int)≤x
     ·have he:=Lib.hid (show ji p=14 from by unfold ji;rw[if_neg hl,if_neg (Hbad (.inr (.inl h1))).out])
      go_wp2
      go_ret;exact⟨by rw[he.out];rfl,hB⟩
     ·obtain⟨y,rfl⟩:=Int.eq_ofNat_of_zero_le (Int.not_lt.1 h0)
      have hyl:y<p.length:=by omega
      have hck2:=(hO.cell y).trans (QI L y (by omega));have hfr:=hO.free y;by_cases hs:L[y]?.getD false=true
      ·have he:=Lib.hid (show ji p=14 from by unfold ji;rw[if_neg hl,if_neg (Hbad (.inr (.inr ⟨by omega,by omega,by simpa using hs⟩))).out])
       rw[hs] at hck2;clear hs Hbad Hst hLl
       go_wp2
       go_ret;exact⟨by rw[he.out];rfl,hB⟩
      ·have hs':L[y]?.getD false=false:=by simpa using hs
       have hs2:=Hst y rfl hyl hs';rw[hs'] at hck2;clear hs hs' Hbad Hst hLl
       go_wp2
       refine⟨⟨k+1,_,by go_num,by omega,hs2,?_,hB.setCell (by simp) _⟩,by simp[intOf];omega⟩;rw[←Yi];exact hO.put y _
   ·have hkk:k=p.length:=by omega
    subst hkk;have he:=Lib.hid (show ji p=0 from by unfold ji;rw[if_neg hl,if_pos hI.out.good]);clear hLl
    go_wp2
    go_ret;exact⟨by rw[he.out];rfl,hB⟩
theorem JD (v:Value) (p:List Int) (w:World) (hv:Sl w 1 v (jc p)):
  Calls Tryz.prog 44 #[v] w fun e w'=>e = .returned (.int .i64 (ji p))∧Below w.heap.size w w':=by
 obtain⟨A,c,rfl,hc1,hc2⟩:=hv.form;rw[jQ] at hc1 hv ⊢;by_cases hl:256<p.length
 ·have he:=Lib.hid (show ji p=5 from by unfold ji;rw[if_pos hl])
  go_enter Tryz.func44,Tryz.ntmps44
  go_wp2
  go_ret;exact⟨by rw[he.out];rfl,Below.refl _ _⟩
 ·have hd:decide ((256:Int)<(p.length:Int))=false:=decide_eq_false (by omega)
  have hmk:=Y1 w p.length (by omega);go_enter Tryz.func44,Tryz.ntmps44
  go_wp2
  go_loopw [4] (fun i wr=>∃(k:Nat) (L:List Bool),i = .int .i64 k∧k≤p.length∧Hid (xA p L k)∧ja wr w.heap.size 4 (xR L)∧Below w.heap.size w wr) (fun i _=>p.length-(intOf i).toNat)
  case atStart=>exact⟨0,_,rfl,by omega,Lib.hid (xA.start p),ja.make _ _ _,(Below.refl _ _).alloc (Nat.le_refl _) _⟩
  case round=>
   obtain⟨k,L,rfl,hk,hI,hO,hB⟩:=hrel;have hLl:L.length=p.length:=hI.out.1;by_cases hlt:k<p.length
   ·obtain⟨b0,off,rfl,hbb,hcell⟩:=hv.at_ (k:=k) (by rw[jQ];omega)
    have hck:=(hB.cell (p:=⟨b0,off+k,none⟩) hbb).trans ((hcell k (by rw[jQ];omega)).trans (kh p k hlt))
    have Hbad:=fun h=>Lib.hid (hI.out.bad hlt h)
    have Hst:=fun (x:Nat) a b c=>Lib.hid (hI.out.step (x:=x) hlt a b c)
    generalize p[k]?.getD 0=x at *;clear hcell hv;by_cases h0:x<0
    ·have he:=Lib.hid (show ji p=14 from by unfold ji;rw[if_neg hl,if_neg (Hbad (.inl h0)).out])
     go_wp2
     go_ret;exact⟨by rw[he.out];rfl,hB⟩
    ·by_cases h1:(p.length:Int)≤x
     ·have he:=Lib.hid (show ji p=14 from by unfold ji;rw[if_neg hl,if_neg (Hbad (.inr (.inl h1))).out])
      go_wp2
      go_ret;exact⟨by rw[he.out];rfl,hB⟩
     ·obtain⟨y,rfl⟩:=Int.eq_ofNat_of_zero_le (Int.not_lt.1 h0)
      have hyl:y<p.length:=by omega
      have hck2:=(hO.cell y).trans (QI L y (by omega));have hfr:=hO.free y;by_cases hs:L[y]?.getD false=true
      ·have he:=Lib.hid (show ji p=14 from by unfold ji;rw[if_neg hl,if_neg (Hbad (.inr (.inr ⟨by omega,by omega,by simpa using hs⟩))).out])
       rw[hs] at hck2;clear hs Hbad Hst hLl
       go_wp2
       go_ret;exact⟨by rw[he.out];rfl,hB⟩
      ·have hs':L[y]?.getD false=false:=by simpa using hs
       have hs2:=Hst y rfl hyl hs';rw[hs'] at hck2;clear hs hs' Hbad Hst hLl
       go_wp2
       refine⟨⟨k+1,_,by go_num,by omega,hs2,?_,hB.setCell (by simp) _⟩,by simp[intOf];omega⟩;rw[←Yi];exact hO.put y _
   ·have hkk:k=p.length:=by omega
    subst hkk;have he:=Lib.hid (show ji p=0 from by unfold ji;rw[if_neg hl,if_pos hI.out.good]);clear hLl
    go_wp2
    go_ret;exact⟨by rw[he.out];rfl,hB⟩
def jE (w:World) (v:Value) (xs:List Value):Prop:=
 ∃A c,v = .slice A xs.length c∧xs.length≤c∧xs.length≤140737488355328∧(0<xs.length → ∃b off,A=some ⟨b,off,none⟩∧b<w.heap.size ∧ ∀j,j<xs.length→w.cell? ⟨b,off+j,none⟩=xs[j]?)
theorem Sl.wide {w:World} {v:Value} {xs:List Value} (h:Sl w 1 v xs):jE w v xs:=by
 obtain⟨A,c,rfl,h1,h2⟩:=h.form;refine⟨A,c,rfl,h1,by omega,fun hn=> ?_⟩;obtain⟨b,off,hA,hb,hc⟩:=h.at_ hn;exact⟨b,off,hA,hb,hc⟩
theorem jE.form {w:World} {v:Value} {xs:List Value} (h:jE w v xs):∃A c,v = .slice A xs.length c∧xs.length≤c∧xs.length≤140737488355328:=by
 obtain⟨A,c,h1,h2,h3,_⟩:=h;exact⟨A,c,h1,h2,h3⟩
theorem jE.at_ {w:World} {A:Option Addr} {n c:Nat} {xs:List Value} (h:jE w (.slice A n c) xs) {k:Nat} (hk:k<xs.length):
  ∃b off,A=some ⟨b,off,none⟩∧b<w.heap.size ∧ ∀j,j<xs.length→w.cell? ⟨b,off+j,none⟩=xs[j]? :=by
 obtain⟨A',c',hv,h1,h2,h3⟩:=h
 injection hv with hA _ _
 subst hA;exact h3 (by omega)
theorem jE.below {w w':World} {v:Value} {xs:List Value} (h:jE w v xs) (hb:Below w.heap.size w w'):jE w' v xs:=by
 obtain⟨A,c,rfl,h1,h2,h3⟩:=h;refine⟨A,c,rfl,h1,h2,fun hn=> ?_⟩;obtain⟨b,off,hA,hlt,hc⟩:=h3 hn;exact⟨b,off,hA,Nat.lt_of_lt_of_le hlt hb.size,fun j hj=>(hb.cell (p:=⟨b,off+j,none⟩) hlt).trans (hc j hj)⟩
theorem SZ {p q:List Int} {k:Nat} (hk:k<p.length) (hl:p.length=q.length) (h:(decide (p.drop k=q.drop k))=decide (p=q)) (he:p[k]?.getD 0=q[k]?.getD 0):decide (p.drop (k+1)=q.drop (k+1))=decide (p=q):=by
 have hq:k<q.length:=by omega
 rw[List.getElem?_eq_getElem hk,List.getElem?_eq_getElem hq] at he;simp only[Option.getD_some] at he;have e1:p.drop k=p[k]::p.drop (k+1):=List.drop_eq_getElem_cons hk;have e2:q.drop k=q[k]::q.drop (k+1):=List.drop_eq_getElem_cons hq;rw[←h,e1,e2,he];exact decide_eq_decide.mpr ⟨fun h=>by rw[h],fun h=>(List.cons.inj h).2⟩
theorem SX {p q:List Int} {k:Nat} (he:p[k]?.getD 0≠q[k]?.getD 0):decide (p=q)=false:=by
 simp only[decide_eq_false_iff_not];intro h;subst h;exact he rfl
theorem Zw (v u:Value) (p q:List Int) (w:World) (hv:jE w v (jc p)) (hu:jE w u (jc q)):
  Calls Tryz.prog 93 #[v,u] w fun e w'=>e = .returned (.bool (decide (p=q)))∧Below w.heap.size w w':=by
 obtain⟨A,c,rfl,hc1,hc2⟩:=hv.form;obtain⟨B,d,rfl,gc1,gc2⟩:=hu.form;simp only[jQ] at hc1 hc2 hv gc1 gc2 hu ⊢
 obtain⟨r,hr⟩:∃r,decide (p=q)=r:=⟨_,rfl⟩
 have HR:=Lib.hid hr;rw[hr];by_cases hl:p.length=q.length
 ·have hb:((p.length:Int) != (q.length:Int))=false:=by rw[hl];simp
  have HL:=Lib.hid hl;clear hr hl;go_enter Tryz.func93,Tryz.ntmps93
  go_wp2_with fail
  go_loopg [5] p.length (fun g i wr=>∃(k:Nat),k+g=p.length∧i = .int .i64 k∧Hid (decide (p.drop k=q.drop k)=decide (p=q))∧Below w.heap.size w wr)
  case atStart=>exact⟨0,by omega,rfl,Lib.hid rfl,Below.refl _ _⟩
  case round=>
   obtain⟨k,hk,rfl,hD,hB⟩:=hrel
   cases gk with
   | zero=>
    have hin:¬((k:Int)<(p.length:Int)):=by omega
    have HT:Hid (r=true):=Lib.hid (by
     rw[←HR.out,←hD.out,List.drop_eq_nil_of_le (by omega),List.drop_eq_nil_of_le (by have:=HL.out;omega)];rfl)
    clear hk
    go_wp2
    go_ret;exact⟨by rw[HT.out];rfl,hB⟩
   | succ g=>
    have hlt:k<p.length:=by omega
    have hlq:k<q.length:=by have:=HL.out;omega
    obtain⟨b1,off1,rfl,hbb1,hcell1⟩:=hv.at_ (k:=k) (by rw[jQ];omega);obtain⟨b2,off2,rfl,hbb2,hcell2⟩:=hu.at_ (k:=k) (by rw[jQ];omega);have hck1:=(hB.cell (p:=⟨b1,off1+k,none⟩) hbb1).trans ((hcell1 k (by rw[jQ];omega)).trans (kh p k hlt));have hck2:=(hB.cell (p:=⟨b2,off2+k,none⟩) hbb2).trans ((hcell2 k (by rw[jQ];omega)).trans (kh q k hlq));have Hstep:=Lib.hid (fun he=>SZ hlt HL.out hD.out he);have Hdiff:=Lib.hid (fun he=>SX (p:=p) (q:=q) (k:=k) he);have Hk:=Lib.hid hk;clear hcell1 hcell2 hv hu hk;generalize p[k]?.getD 0=x at *;generalize q[k]?.getD 0=y at *;by_cases he:x=y
    ·have Hs:=Lib.hid (Hstep.out he)
     have hxy:(x != y)=false:=by simp[he]
     clear he
     go_wp2
     go_quiet (fail)
     have hB':=below_drewN hB nq
     go_wp2
     go_roundg g
     case rel=>exact⟨k+1,by have:=Hk.out;omega,by go_num,Hs,hB'⟩
     case measure=>omega
    ·have Hs:=Lib.hid (Hdiff.out he)
     have hxy:(x != y)=true:=by simpa using he
     clear he;have HF:Hid (r=false):=Lib.hid (by rw[←HR.out];exact Hs.out)
     go_wp2
     go_quiet (fail)
     have hB':=below_drewN hB nq
     go_wp2
     go_ret;exact⟨by rw[HF.out];rfl,hB'⟩
 ·have hb:((p.length:Int) != (q.length:Int))=true:=by simpa using (by omega:¬(p.length:Int)=q.length)
  have hne:p≠q:=by intro h;subst h;exact hl rfl
  have HF:Hid (r=false):=Lib.hid (by rw[←hr];simpa using hne);clear hr hne hl;go_enter Tryz.func93,Tryz.ntmps93
  go_wp2
  go_ret;exact⟨by rw[HF.out];rfl,Below.refl _ _⟩
end Go.Proofs.YtneafcdfnhnpnaaGreatDoor
namespace Go.Proofs.YtneafcdfnhnpnaaGreatDoor
open Go.RowKit Go.Lib
theorem UV (d:Nat) (h:d<10):(ByteArray.mk #[48,49,50,51,52,53,54,55,56,57]).extract d (d+1)=⟨#[UInt8.ofNat (48+d)]⟩:=by
 have:∀d:Fin 10,(ByteArray.mk #[48,49,50,51,52,53,54,55,56,57]).extract d.1 (d.1+1)=⟨#[UInt8.ofNat (48+d.1)]⟩:=by decide +kernel
 exact this ⟨d,h⟩
def zN (n y:Nat) (acc:List UInt8):Prop:=(y=0∧acc≠[]∧decDigits n=acc)∨(decDigits n=decDigits y++acc∧(y=0→acc=[]))
theorem zN.step {n y:Nat} {acc:List UInt8} (h:zN n y acc) (hc:0<y∨acc.length<1):zN n (y/10) (UInt8.ofNat (48+y%10)::acc):=by
 rcases h with ⟨h1,h2,h3⟩ | ⟨h1,h2⟩
 ·exact absurd (List.length_eq_zero_iff.1 (by omega)) h2
 ·by_cases h10:y<10
  ·refine .inl ⟨by omega,by simp,?_⟩
   rw[h1,decDigits_one h10,Nat.mod_eq_of_lt h10];rfl
  ·refine .inr ⟨?_,fun e=>by omega⟩
   rw[h1,Jq (by omega)];simp
theorem zN.done {n y:Nat} {acc:List UInt8} (h:zN n y acc) (h1:¬0<y) (h2:¬acc.length<1):decDigits n=acc:=by
 rcases h with ⟨_,_,h3⟩ | ⟨_,h4⟩
 ·exact h3
 ·rw[h4 (by omega)] at h2;simp at h2
theorem zN.len {n y:Nat} {acc:List UInt8} (h:zN n y acc):acc.length≤(decDigits n).length:=by
 rcases h with ⟨_,_,h3⟩ | ⟨h3,_⟩
 ·rw[h3];exact Nat.le_refl _
 ·rw[h3,List.length_append];omega
theorem Yx {n:Nat} (h:n<10000000000000000000):(decDigits n).length≤19:=by
 rw[decDigits_length];exact zC 18 n h
def kn (l:List UInt8) (w:World) (e:Ending) (w':World):Prop:=e = .returned (.string ⟨l.toArray⟩)∧Below w.heap.size w w'
theorem KH (c:UInt8) (l:List UInt8):(ByteArray.mk #[c])++(ByteArray.mk l.toArray)=⟨(c::l).toArray⟩:=by
 rw[ByteArray.mk_append_mk];congr 1
theorem Yy (n:Nat) (w:World) (hn:n≤9223372036854775807):
  Calls Tryz.prog 128 #[.int .i64 n,.int .i64 1] w (kn (decDigits n) w):=by
 have HL:=hid (Yx (n:=n) (by omega));go_enter Tryz.func128,Tryz.ntmps128
 go_wp2
 go_loopg [0,5] (n+1) (fun g y s wr=>∃(m:Nat) (acc:List UInt8),y = .int .i64 m∧s = .string ⟨acc.toArray⟩∧m≤n∧(g=m+1∨(g=0∧m=0∧1≤acc.length))∧Hid (zN n m acc)∧Below w.heap.size w wr)
 case atStart=>exact⟨n,[],rfl,rfl,Nat.le_refl _,.inl rfl,hid (.inr ⟨by simp,fun _=>rfl⟩),Below.refl _ _⟩
 case round=>
  obtain⟨m,acc,rfl,rfl,hm,hg,hd,hB⟩:=hrel;have hacc:acc.length≤19:=Nat.le_trans hd.out.len HL.out
  have hal:(ByteArray.mk acc.toArray).size=acc.length:=by simp[ByteArray.size]
  by_cases h0:0<m
  ·have h0':(0:Int)<(m:Int):=by omega
   have HS:=hid (hd.out.step (.inl h0));have hq:m/10<m:=Nat.div_lt_self h0 (by decide);have HT:=hid (UV (m%10) (Nat.mod_lt _ (by decide)));have hr9:m%10<10:=Nat.mod_lt _ (by decide);clear hd
   go_wp2
   go_roundg (m/10+1)
   case rel=>exact⟨m/10,_,by go_num,by rw[HT.out,KH],by omega,.inl rfl,HS,hB⟩
   case measure=>omega
  ·have hm0:m=0:=by omega
   subst hm0;by_cases h1:acc.length<1
   ·have hnil:acc=[]:=List.length_eq_zero_iff.1 (by omega)
    subst hnil;have HS:=hid (hd.out.step (.inr (by decide)));have hsz:(ByteArray.mk #[]).size=0:=rfl;clear hd
    go_wp2
    go_roundg 0
    case rel=>exact⟨0,_,rfl,rfl,by omega,.inr ⟨rfl,rfl,by decide⟩,HS,hB⟩
    case measure=>rcases hg with hg | hg <;> simp_all
   ·have HE:=hid (hd.out.done (by omega) h1)
    have h1':¬((acc.length:Int)<1):=by omega
    clear hd
    go_wp2
    go_ret;exact⟨by rw[HE.out];rfl,hB⟩
def JS (n y:Nat) (acc:List UInt8):Prop:=acc.length≤9∧qH 9 n=qH (9-acc.length) y++acc∧y<10^(9-acc.length)
theorem JS.step {n y:Nat} {acc:List UInt8} (h:JS n y acc) (hc:acc.length<9):JS n (y/10) (UInt8.ofNat (48+y%10)::acc):=by
 obtain⟨h1,h2,h3⟩:=h
 obtain⟨j,hj⟩:∃j,9-acc.length=j+1:=⟨8-acc.length,by omega⟩
 rw[hj] at h2 h3;refine⟨by simp;omega,?_,?_⟩
 ·rw[h2,show 9-(UInt8.ofNat (48+y%10)::acc).length=j from by simp;omega,qH];simp
 ·rw[show 9-(UInt8.ofNat (48+y%10)::acc).length=j from by simp;omega]
  rw[Nat.pow_succ] at h3;omega
theorem JS.done {n y:Nat} {acc:List UInt8} (h:JS n y acc) (hc:¬acc.length<9):qH 9 n=acc∧y=0:=by
 obtain⟨h1,h2,h3⟩:=h;rw[show 9-acc.length=0 from by omega] at h2 h3;exact⟨by rw[h2];rfl,by simpa using h3⟩
theorem Sn (n:Nat) (w:World) (hn:n<1000000000):
  Calls Tryz.prog 128 #[.int .i64 n,.int .i64 9] w (kn (qH 9 n) w):=by
 go_enter Tryz.func128,Tryz.ntmps128
 go_wp2
 go_loopg [0,5] 9 (fun g y s wr=>∃(m:Nat) (acc:List UInt8),y = .int .i64 m∧s = .string ⟨acc.toArray⟩∧m≤n∧g+acc.length=9∧Hid (JS n m acc)∧Below w.heap.size w wr)
 case atStart=>exact⟨n,[],rfl,rfl,Nat.le_refl _,rfl,hid ⟨by simp,by simp,by simpa using hn⟩,Below.refl _ _⟩
 case round=>
  obtain⟨m,acc,rfl,rfl,hm,hg,hd,hB⟩:=hrel
  have hal:(ByteArray.mk acc.toArray).size=acc.length:=by simp[ByteArray.size]
  cases gk with
  | zero=>
   obtain⟨HE0,hm0⟩:=hd.out.done (by omega);have HE:=hid HE0;clear HE0
   have h1':¬((acc.length:Int)<9):=by omega
   subst hm0;clear hd
   go_wp2
   go_ret;exact⟨by rw[HE.out];rfl,hB⟩
  | succ gh=>
   have HS:=hid (hd.out.step (by omega));have HT:=hid (UV (m%10) (Nat.mod_lt _ (by decide)));have hr9:m%10<10:=Nat.mod_lt _ (by decide)
   have h1':((acc.length:Int)<9):=by omega
   clear hd;by_cases h0:0<m
   ·have h0':(0:Int)<(m:Int):=by omega
    go_wp2
    go_roundg gh
    case rel=>exact⟨m/10,_,by go_num,by rw[HT.out,KH],by omega,by simp;omega,HS,hB⟩
    case measure=>omega
   ·have hm0:m=0:=by omega
    subst hm0
    go_wp2
    go_roundg gh
    case rel=>exact⟨0,_,rfl,by rw[←KH];rfl,by omega,by simp;omega,HS,hB⟩
    case measure=>omega
theorem TE (a b:Nat) (w:World) (ha:a≤9223372036854775807) (hb:b≤9223372036854775807):
  Calls Tryz.prog 127 #[.int .i64 a,.int .i64 b] w (fun e w'=>e = .returned (.int .i64 (Nat.gcd a b:Nat))∧Below w.heap.size w w'):=by
 go_enter Tryz.func127,Tryz.ntmps127
 go_wp2
 go_loopg [0,1] b (fun g x y wr=>∃(p q:Nat),x = .int .i64 p∧y = .int .i64 q∧p≤9223372036854775807∧q≤9223372036854775807∧g=q∧Hid (Nat.gcd p q=Nat.gcd a b)∧Below w.heap.size w wr)
 case atStart=>exact⟨a,b,rfl,rfl,ha,hb,rfl,hid rfl,Below.refl _ _⟩
 case round=>
  obtain⟨p,q,rfl,rfl,hp,hq,rfl,hd,hB⟩:=hrel;by_cases h0:0<gk
  ·have h0':(0:Int)<(gk:Int):=by omega
   have hlt:p%gk<gk:=Nat.mod_lt _ h0;have HS:Hid (Nat.gcd gk (p%gk)=Nat.gcd a b):=hid (by rw[←hd.out,Nat.gcd_comm p gk,Nat.gcd_rec gk p,Nat.gcd_comm]);clear hd
   go_wp2_with (go_quiet (fail))
   go_roundg (p%gk)
   case rel=>exact⟨gk,p%gk,rfl,by go_num,hq,by omega,rfl,HS,below_drewN hB nq⟩
   case measure=>exact hlt
  ·have hm0:gk=0:=by omega
   subst hm0;have HE:Hid (Nat.gcd a b=p):=hid (by rw[←hd.out];simp);clear hd
   go_wp2
   go_ret;exact⟨by rw[HE.out];rfl,hB⟩
end Go.Proofs.YtneafcdfnhnpnaaGreatDoor
namespace Go.Proofs.YtneafcdfnhnpnaaGreatDoor
open Go.Lib
theorem K7 {d:Nat} (h:d<10):(UInt8.ofNat (48+d)).toNat=48+d:=by rw[UInt8.toNat_ofNat'];omega
theorem qw (n:Nat):jW (decDigits n):=by
 induction n using Nat.strongRecOn with
 | _ n ih=>
  by_cases h:n<10
  ·rw[decDigits_one h]
   intro c hc;obtain rfl:=List.mem_singleton.1 hc;rw[K7 h];omega
  ·rw[Jq (by omega)]
   intro c hc;rcases List.mem_append.1 hc with hc | hc
   ·exact ih (n/10) (by omega) c hc
   ·obtain rfl:=List.mem_singleton.1 hc
    rw[K7 (Nat.mod_lt _ (by decide))];omega
theorem y4 (n:Nat):jf (decDigits n)=n:=by
 induction n using Nat.strongRecOn with
 | _ n ih=>
  by_cases h:n<10
  ·rw[decDigits_one h,jf,zy,yY,K7 h];omega
  ·rw[Jq (by omega),Jr,ih (n/10) (by omega),jf,zy,yY,K7 (Nat.mod_lt _ (by decide))]
   simp only[List.length_singleton,Nat.pow_one];omega
theorem Sm (n:Nat):decDigits n≠[]:=by
 by_cases h:n<10
 ·rw[decDigits_one h];simp
 ·rw[Jq (by omega)];simp
theorem Dp {l:List UInt8} {c:UInt8} (h:jD (l++[c])) (hl:l≠[]):jD l∧l≠[48]:=by
 obtain⟨h1,h2⟩:=h
 have ha:jW l:=fun x hx=>h1 x (List.mem_append_left _ hx)
 rcases h2 with h2 | ⟨_,h2⟩
 ·have:=congrArg List.length h2
  simp at this;exact absurd (by simpa using this) hl
 ·cases l with
  | nil=>exact absurd rfl hl
  | cons a t=>
   simp at h2;exact⟨⟨ha,.inr ⟨by simp,by simpa using h2⟩⟩,by intro e;injection e with e1 e2;exact h2 e1⟩
theorem Dn:∀(k:Nat) (l:List UInt8),l.length=k→jD l→l=decDigits (jf l):=by
 intro k
 induction k with
 | zero=>
  intro l hl h;have:=List.length_eq_zero_iff.1 hl;subst this;rcases h.2 with h | h
  ·cases h
  ·exact absurd rfl h.1
 | succ k ih=>
  intro l hl h
  have hne:l≠[]:=by intro e;rw[e] at hl;simp at hl
  obtain⟨p,c,rfl⟩:∃p c,l=p++[c]:=⟨l.dropLast,l.getLast hne,(List.dropLast_concat_getLast hne).symm⟩
  have hc:=h.1 c (by simp)
  obtain⟨d,hd⟩:∃d,c.toNat=48+d:=⟨c.toNat-48,by omega⟩
  have hcd:c=UInt8.ofNat (48+d):=by apply UInt8.toNat_inj.1;rw[K7 (by omega),hd]
  have hv:jf [c]=d:=by rw[jf,zy,yY];omega
  by_cases hp:p=[]
  ·subst hp
   rw[List.nil_append,hv,decDigits_one (by omega),hcd]
  ·obtain⟨h3,h4⟩:=Dp h hp
   have h5:=ih p (by simpa using hl) h3
   have hpos:0<jf p:=by
    rcases Nat.eq_zero_or_pos (jf p) with h6 | h6
    ·rw[h6] at h5;exact absurd (h5.trans (decDigits_one (by decide))) h4
    ·exact h6
   rw[Jr,hv];simp only[List.length_singleton,Nat.pow_one];rw[Jq (by omega),show (jf p*10+d)/10=jf p from by omega,show (jf p*10+d)%10=d from by omega,←h5,hcd]
theorem Qm {l:List UInt8} (h:jW l):jk l=l.length:=by
 unfold jk
 refine List.findIdx_eq_length.2 fun x hx=> ?_
 have:=h x hx;simp only[beq_eq_false_iff_ne];rintro rfl;exact absurd this.1 (by decide)
theorem XI {l r:List UInt8} (h:jW l):jk (l++47::r)=l.length:=by
 have:=Qm h;unfold jk at this ⊢;rw[List.findIdx_append,this,if_neg (by omega)];rw[List.findIdx_cons];simp
end Go.Proofs.YtneafcdfnhnpnaaGreatDoor
namespace Go.Proofs.YtneafcdfnhnpnaaGreatDoor
open Go.RowKit Go.Lib
def qI (neg:Bool) (n d:Nat):List UInt8:=(if neg then [45] else [])++decDigits n++(if d=1 then [] else 47::decDigits d)
theorem Gn {a:Int} {d:Nat} (hd:d≠0) (hc:Nat.gcd a.natAbs d=1):jg (mkRat a d)=qI (decide (a<0)) a.natAbs d:=by
 obtain⟨h1,h2⟩:=Kb hd hc;unfold jg qI;rw[h1,h2];by_cases h:a<0
 ·rw[if_pos h,decide_eq_true h];rfl
 ·rw[if_neg h,decide_eq_false h];rfl
theorem ZM (a:Int) (d:Nat) (hd:0<d):∃(g n1 d1:Nat),Nat.gcd a.natAbs d=g∧0<g∧g≤d∧d/g=d1∧d1≤d∧0<d1∧n1≤a.natAbs∧a.tdiv g=sg (decide (a<0)) n1∧(a<0→0<n1)∧jg (mkRat a d)=qI (decide (a<0)) n1 d1:=by
 have hg:0<Nat.gcd a.natAbs d:=Nat.gcd_pos_of_pos_right _ hd;obtain⟨n1,hn⟩:=Nat.gcd_dvd_left a.natAbs d;obtain⟨d1,hd1⟩:=Nat.gcd_dvd_right a.natAbs d;generalize hgg:Nat.gcd a.natAbs d=g at *
 have e1:d/g=d1:=by rw[hd1,Nat.mul_div_cancel_left _ hg]
 have hd10:0<d1:=by rcases Nat.eq_zero_or_pos d1 with h | h;subst h;omega;exact h
 have hd1le:d1≤d:=by rw[←e1];exact Nat.div_le_self _ _
 have hn1:n1≤a.natAbs:=by rw[hn];exact Nat.le_mul_of_pos_left _ hg
 have hco:Nat.gcd n1 d1=1:=by
  have h:=hgg;rw[hn,hd1,Nat.gcd_mul_left] at h;exact Nat.eq_of_mul_eq_mul_left hg (by rw[h,Nat.mul_one])
 have ha:a=sg (decide (a<0)) n1*g:=by
  unfold sg;by_cases h:a<0
  ·rw[if_pos (decide_eq_true h)]
   have:(a.natAbs:Int)=(g:Int)*(n1:Int):=by rw[hn];simp
   rw[Int.neg_mul,Int.mul_comm,←this];omega
  ·rw[if_neg (by simpa using h)]
   have:(a.natAbs:Int)=(g:Int)*(n1:Int):=by rw[hn];simp
   rw[Int.mul_comm,←this];omega
 have hpos:a<0→0<n1:=by
  intro h;rcases Nat.eq_zero_or_pos n1 with h1 | h1
  ·rw[h1,Nat.mul_zero] at hn;omega
  ·exact h1
 refine⟨g,n1,d1,rfl,hg,Nat.le_of_dvd hd ⟨d1,hd1⟩,e1,hd1le,hd10,hn1,?_,hpos,?_⟩
 ·conv=>lhs;rw[ha]
  exact Int.mul_tdiv_cancel _ (by omega)
 ·have hs:(sg (decide (a<0)) n1).natAbs=n1:=by unfold sg;split <;> simp
  have hneg:decide (sg (decide (a<0)) n1<0)=decide (a<0):=by
   unfold sg;by_cases h:a<0
   ·have:=hpos h
    simp[h];try omega
   ·simp[h];try omega
  have h2:mkRat a d=mkRat (sg (decide (a<0)) n1) d1:=by
   rw[show d=g*d1 from hd1]
   conv=>lhs;rw[ha,Int.mul_comm]
   exact Rat.mkRat_mul_left (by omega)
  rw[h2,Gn (by omega) (by rw[hs];exact hco),hneg,hs]
theorem MV (a:Int) (d g n n1 d1:Nat) (neg:Bool) (w:World) (ha: -4000000000000000000≤a∧a≤4000000000000000000) (hd0:(0:Int)<d) (hd:(d:Int)≤4000000000000000000) (hmx:Hid (max a (-a)=(n:Int))) (hg:Nat.gcd n d=g) (hg0:(0:Int)<g) (hgl:(g:Int)≤4000000000000000000)
  (hq:a.tdiv (g:Int)=sg neg n1) (hn1:(n1:Int)≤4000000000000000000) (hp:neg=true→(0:Int)<n1) (hdq:wrap64 ((d:Int)/(g:Int))=(d1:Int)) (hd1:(d1:Int)≤4000000000000000000) (hd10:(0:Int)<d1):
  Calls Tryz.prog 35 #[.int .i64 a,.int .i64 d] w (kn (qI neg n1 d1) w):=by
 have GC:=hid (fun w=>TE n d w (by have:=hmx.out;omega) (by omega));rw[hg] at GC;clear hg;have DN:=hid (fun w=>Yy n1 w (by omega));have DD:=hid (fun w=>Yy d1 w (by omega));have hL1:=Yx (n:=n1) (by omega);have hL2:=Yx (n:=d1) (by omega)
 cases neg with
 | false=>
  have hq2:a.tdiv (g:Int)=(n1:Int):=hq;clear hq;clear hp;by_cases h1:(1:Int)<d1
  ·have HX:Hid (qI false n1 d1=decDigits n1++[47]++decDigits d1):=hid (by unfold qI;rw[if_neg (by omega:¬d1=1)];simp)
   go_enter Tryz.func35,Tryz.ntmps35
   go_wp2_with fail
   rw[hmx.out];refine(GC.out _).mono ?_;clear GC;rintro e w1 ⟨rfl,hB1⟩
   go_wp2_with (go_quiet (fail))
   have hB1':=below_drewN hB1 nq;rw[show max ((n1:Int)) (-(n1:Int))=n1 from by omega];refine(DN.out _).mono ?_;clear DN;rintro e w2 ⟨rfl,hB2⟩
   go_wp2_with fail
   refine(DD.out _).mono ?_;clear DD;rintro e w3 ⟨rfl,hB3⟩
   go_wp2
   go_ret;refine⟨?_,hB1'.trans ((hB2.mono hB1'.size).trans (hB3.mono (Nat.le_trans hB1'.size hB2.size)))⟩;rw[HX.out];simp[ByteArray.mk_append_mk]
  ·have HX:Hid (qI false n1 d1=decDigits n1):=hid (by unfold qI;rw[if_pos (by omega:d1=1)];simp)
   go_enter Tryz.func35,Tryz.ntmps35
   go_wp2_with fail
   rw[hmx.out];refine(GC.out _).mono ?_;clear GC;rintro e w1 ⟨rfl,hB1⟩
   go_wp2_with (go_quiet (fail))
   have hB1':=below_drewN hB1 nq;rw[show max ((n1:Int)) (-(n1:Int))=n1 from by omega];refine(DN.out _).mono ?_;clear DN;rintro e w2 ⟨rfl,hB2⟩
   go_wp2
   go_ret;refine⟨?_,hB1'.trans (hB2.mono hB1'.size)⟩;rw[HX.out];simp[ByteArray.mk_append_mk]
 | true=>
  have hq2:a.tdiv (g:Int) = -(n1:Int):=hq;clear hq;have hp2:=hp rfl;clear hp;by_cases h1:(1:Int)<d1
  ·have HX:Hid (qI true n1 d1=[45]++decDigits n1++[47]++decDigits d1):=hid (by unfold qI;rw[if_neg (by omega:¬d1=1)];simp)
   go_enter Tryz.func35,Tryz.ntmps35
   go_wp2_with fail
   rw[hmx.out];refine(GC.out _).mono ?_;clear GC;rintro e w1 ⟨rfl,hB1⟩
   go_wp2_with (go_quiet (fail))
   have hB1':=below_drewN hB1 nq;rw[show max (-(n1:Int)) ((n1:Int))=n1 from by omega];refine(DN.out _).mono ?_;clear DN;rintro e w2 ⟨rfl,hB2⟩
   go_wp2_with fail
   refine(DD.out _).mono ?_;clear DD;rintro e w3 ⟨rfl,hB3⟩
   go_wp2
   go_ret;refine⟨?_,hB1'.trans ((hB2.mono hB1'.size).trans (hB3.mono (Nat.le_trans hB1'.size hB2.size)))⟩;rw[HX.out];simp[ByteArray.mk_append_mk]
  ·have HX:Hid (qI true n1 d1=[45]++decDigits n1):=hid (by unfold qI;rw[if_pos (by omega:d1=1)];simp)
   go_enter Tryz.func35,Tryz.ntmps35
   go_wp2_with fail
   rw[hmx.out];refine(GC.out _).mono ?_;clear GC;rintro e w1 ⟨rfl,hB1⟩
   go_wp2_with (go_quiet (fail))
   have hB1':=below_drewN hB1 nq;rw[show max (-(n1:Int)) ((n1:Int))=n1 from by omega];refine(DN.out _).mono ?_;clear DN;rintro e w2 ⟨rfl,hB2⟩
   go_wp2
   go_ret;refine⟨?_,hB1'.trans (hB2.mono hB1'.size)⟩;rw[HX.out];simp[ByteArray.mk_append_mk]
theorem Ud (a:Int) (d:Nat) (w:World) (ha: -4000000000000000000≤a∧a≤4000000000000000000) (hd0:0<d) (hd:(d:Int)≤4000000000000000000):
  Calls Tryz.prog 35 #[.int .i64 a,.int .i64 d] w (kn (jg (mkRat a d)) w):=by
 obtain⟨g,n1,d1,h1,h2,h3,h4,h5,h6,h7,h8,h9,h10⟩:=ZM a d hd0;rw[h10]
 have e:((d:Int)/(g:Int))=(d1:Int):=by rw[←h4];rfl
 refine MV a d g a.natAbs n1 d1 (decide (a<0)) w ha (by omega) hd (hid (by omega)) h1 (by omega) (by omega) h8 (by omega) (fun h=>by have:=h9 (of_decide_eq_true h);omega) ?_ (by omega) (by omega)
 rw[e];exact IntWalk.wrap64_in _ (by omega)
end Go.Proofs.YtneafcdfnhnpnaaGreatDoor
namespace Go.Proofs.YtneafcdfnhnpnaaGreatDoor
open Go.RowKit
theorem Zx (p a:Int) (w:World):Calls Tryz.prog 319 #[.agg #[.int .i64 p],.int .i64 a] w fun e w'=>e = .returned (.bool (a==0))∧Below w.heap.size w w':=by
 by_cases h:(a==0)=true
 ·go_enter Tryz.func319,Tryz.ntmps319
  go_wp2
  go_ret;exact⟨by rw[h];rfl,(Below.refl _ _).alloc (Nat.le_refl _) _⟩
 ·have h':(a==0)=false:=by simpa using h
  clear h;go_enter Tryz.func319,Tryz.ntmps319
  go_wp2
  go_ret;exact⟨by rw[h'];rfl,(Below.refl _ _).alloc (Nat.le_refl _) _⟩
theorem Gd (p a b:Int) (w:World) (hp:1≤p) (hp2:p≤1000000000) (ha:0≤a∧a<p) (hb:0≤b∧b<p):Calls Tryz.prog 323 #[.agg #[.int .i64 p],.int .i64 a,.int .i64 b] w fun e w'=>e = .returned (.int .i64 (a*b%p))∧Below w.heap.size w w':=by
 have h1:0≤a*b:=Int.mul_nonneg ha.1 hb.1;have h2:a*b≤1000000000*1000000000:=Int.mul_le_mul (by omega) (by omega) hb.1 (by omega);obtain⟨ha1,ha2⟩:=ha;obtain⟨hb1,hb2⟩:=hb;go_enter Tryz.func323,Tryz.ntmps323
 go_wp2
 go_ret;exact⟨rfl,(Below.refl _ _).alloc (Nat.le_refl _) _⟩
theorem Gb (p a b:Int) (w:World) (hp:1≤p) (hp2:p≤1000000000) (ha:0≤a∧a<p) (hb:0≤b∧b<p):Calls Tryz.prog 320 #[.agg #[.int .i64 p],.int .i64 a,.int .i64 b] w fun e w'=>e = .returned (.int .i64 ((a-b)%p))∧Below w.heap.size w w':=by
 obtain⟨ha1,ha2⟩:=ha;obtain⟨hb1,hb2⟩:=hb;go_enter Tryz.func320,Tryz.ntmps320
 go_wp2_with (go_at_call 190;refine(Qi _ _ _ hp (by omega)).mono ?_;rintro e w' ⟨rfl,rfl⟩)
 go_ret;exact⟨rfl,(Below.refl _ _).alloc (Nat.le_refl _) _⟩
theorem Gc (p n:Int) (w:World) (hp:1≤p) (hp2:p≤1000000000):Calls Tryz.prog 321 #[.agg #[.int .i64 p],.int .i64 n] w fun e w'=>e = .returned (.int .i64 (n%p))∧Below w.heap.size w w':=by
 go_enter Tryz.func321,Tryz.ntmps321
 go_wp2_with (go_at_call 190;refine(Qi _ _ _ hp (by omega)).mono ?_;rintro e w' ⟨rfl,rfl⟩)
 go_ret;exact⟨rfl,(Below.refl _ _).alloc (Nat.le_refl _) _⟩
noncomputable def J8 (p b:Int):Int:=@Classical.epsilon Int ⟨0⟩ fun x=>0≤x∧x<p∧p∣(x*b-1)
theorem Nc (p b x:Int) (h0:0≤x) (h1:x<p) (h2:p∣(x*b-1)):J8 p b=x:=by
 have h:=Classical.epsilon_spec (p:=fun x=>0≤x∧x<p∧p∣(x*b-1)) ⟨x,h0,h1,h2⟩;change 0≤J8 p b∧J8 p b<p∧p∣(J8 p b*b-1) at h;generalize J8 p b=y at *;obtain⟨g0,g1,g2⟩:=h
 have hd:p∣(y-x):=by
  have e:y-x=y*(1-x*b)+x*(y*b-1):=by grind
  rw[e];exact Int.dvd_add (Int.dvd_trans (by rw[show (1-x*b) = -(x*b-1) by omega];exact Int.dvd_neg.mpr h2) (Int.dvd_mul_left ..)) (Int.dvd_trans g2 (Int.dvd_mul_left ..))
 have:=Int.emod_eq_of_lt g0 g1;have h3:=Int.emod_eq_of_lt h0 h1;have:=Int.emod_emod_of_dvd y (Int.dvd_refl p);have h4:(y-x)%p=0:=Int.emod_eq_zero_of_dvd hd;have h5:=(Int.emod_eq_emod_iff_emod_sub_eq_zero).mpr h4;omega
noncomputable def K9 (p a b:Int):Int:=a*J8 p b%p
def PF (p:Int):Prop:=2≤p∧p≤1000000000 ∧ ∀b,0<b→b<p→Int.gcd b p=1
theorem B4 (p a b:Int) (w:World) (hp:PF p) (ha:0≤a∧a<p) (hb:0<b∧b<p):Calls Tryz.prog 322 #[.agg #[.int .i64 p],.int .i64 a,.int .i64 b] w fun e w'=>e = .returned (.int .i64 (K9 p a b))∧Below w.heap.size w w':=by
 have hg:=Lib.hid (hp.2.2 b hb.1 hb.2);have hbg:=Lib.hid hb;have hag:=Lib.hid ha;have hpp:=Lib.hid hp;have hp1:=hp.1;have hp2:=hp.2.1;clear hp ha hb;go_enter Tryz.func322,Tryz.ntmps322
 go_wp2_with fail
 refine(Vx _ _ _ (by omega) (by omega)).mono ?_;rintro e w1 ⟨⟨k,rfl⟩,h⟩
 rcases h with ⟨-,x,rfl,hx0,hx1,hx2⟩ | ⟨h,-⟩
 ·have hi:=Lib.hid (Nc p b x hx0 hx1 hx2)
  have HT:=Lib.hid (fun W=>Gd p a x W (by omega) (by omega) hag.out ⟨hx0,hx1⟩);clear hx2
  go_wp2_with (go_at_call 323;refine(HT.out _).mono ?_;rintro e w2 ⟨rfl,hB2⟩)
  go_ret;refine⟨?_,?_⟩
  ·unfold K9;rw[hi.out];rfl
  ·exact(below_drewN ((Below.refl _ w).alloc (Nat.le_refl _) _) k).trans (hB2.mono (by simp))
 ·exact absurd hg.out h
structure jh (g:Nat) (w w':World):Prop where
 os:w'.os=w.os
 tape:w'.tape=w.tape
 output:w'.output=w.output
 size:w.heap.size≤w'.heap.size
 block:∀k,k<w.heap.size→k≠g→w'.heap[k]? =w.heap[k]?
theorem jh.refl (g:Nat) (w:World):jh g w w:=⟨rfl,rfl,rfl,Nat.le_refl _,fun _ _ _=>rfl⟩
theorem jh.trans {g:Nat} {a b c:World} (h:jh g a b) (k:jh g b c):jh g a c:=
 ⟨k.os.trans h.os,k.tape.trans h.tape,k.output.trans h.output,Nat.le_trans h.size k.size,fun i hi hg=>(k.block i (Nat.lt_of_lt_of_le hi h.size) hg).trans (h.block i hi hg)⟩
theorem jh.of_below {g:Nat} {a b:World} (h:Below a.heap.size a b):jh g a b:=⟨h.os,h.tape,h.output,h.size,fun i hi _=>h.block i hi⟩
theorem jh.below {g:Nat} {a b c:World} (h:jh g a b) (k:Below b.heap.size b c):jh g a c:=h.trans (jh.of_below k)
theorem jh.setCell {g:Nat} {a b:World} (h:jh g a b) (p:Addr) (hp:p.block=g) (u:Value):jh g a (b.setCell p u):=
 h.trans ⟨rfl,rfl,rfl,by simp[World.setCell],fun k _ hg=>Below.heap_setCell _ _ _ _ (by omega)⟩
theorem jh.toBelow {g B:Nat} {a b:World} (h:jh g a b) (hg:B≤g) (hB:B≤a.heap.size):Below B a b:=⟨h.os,h.tape,h.output,h.size,fun k hk=>h.block k (by omega) (by omega)⟩
theorem ja.but {w w':World} {g h:Nat} {t:TypeId} {cs:List Value} (o:ja w h t cs) (hb:jh g w w') (hg:h≠g):ja w' h t cs:=(hb.block h o.lt hg).trans o
theorem YS (p:Int) (w:World):(method 444 197 (.agg #[.int .i64 p]) "talisman/algebra.isZero").run Tryz.prog w = .ok (319,.agg #[.int .i64 p]) w:=by kernel_rfl
theorem DJ (p:Int) (w:World):(method 444 197 (.agg #[.int .i64 p]) "talisman/algebra.over").run Tryz.prog w = .ok (322,.agg #[.int .i64 p]) w:=by kernel_rfl
theorem Ff (p:Int) (w:World):(method 444 197 (.agg #[.int .i64 p]) "talisman/algebra.times").run Tryz.prog w = .ok (323,.agg #[.int .i64 p]) w:=by kernel_rfl
theorem VX (p:Int) (w:World):(method 444 197 (.agg #[.int .i64 p]) "talisman/algebra.minus").run Tryz.prog w = .ok (320,.agg #[.int .i64 p]) w:=by kernel_rfl
theorem Ds (p:Int) (w:World):(method 444 197 (.agg #[.int .i64 p]) "talisman/algebra.of").run Tryz.prog w = .ok (321,.agg #[.int .i64 p]) w:=by kernel_rfl
def kT (f:Int→Int) (o k:Nat) (L:List Int):List Int:=L.mapIdx fun j x=>if o≤j∧j<o+k then f x else x
theorem Y5 (f:Int→Int) (o k:Nat) (L:List Int):(kT f o k L).length=L.length:=by simp[kT]
theorem VR (f:Int→Int) (o:Nat) (L:List Int):kT f o 0 L=L:=by
 apply List.ext_getElem?;intro j;simp only[kT,List.getElem?_mapIdx,Nat.add_zero]
 cases L[j]? with
 | none=>rfl
 | some x=>simp only[Option.map_some];rw[if_neg (by omega)]
theorem Y4 (f:Int→Int) (o k:Nat) (L:List Int):(kT f o k L)[o+k]? =L[o+k]? :=by
 simp only[kT,List.getElem?_mapIdx,Nat.lt_irrefl,and_false,if_false];cases L[o+k]? <;> simp
theorem Y6 (f:Int→Int) (o k:Nat) (L:List Int) (h:o+k<L.length):(kT f o k L).set (o+k) (f (L[o+k]?.getD 0))=kT f o (k+1) L:=by
 apply List.ext_getElem?;intro j;rw[List.getElem?_set];simp only[kT,List.getElem?_mapIdx,List.length_mapIdx];by_cases hj:o+k=j
 ·subst hj;simp[h]
 ·rw[if_neg hj]
  rcases Nat.lt_or_ge j L.length with hl | hl
  ·rw[List.getElem?_eq_getElem hl]
   simp only[Option.map_some,Option.some.injEq];by_cases h2:o≤j∧j<o+k
   ·rw[if_pos h2,if_pos (by omega)]
   ·rw[if_neg h2,if_neg (by omega)]
  ·rw[List.getElem?_eq_none hl];rfl
theorem NJ (f:Int→Int) (o k:Nat) (L:List Int) (h:o+k<L.length) (hf:f (L[o+k]?.getD 0)=L[o+k]?.getD 0):kT f o (k+1) L=kT f o k L:=by
 rw[←Y6 f o k L h,hf];apply List.ext_getElem?;intro j;rw[List.getElem?_set,Y5];by_cases hj:o+k=j
 ·subst hj;rw[Y4];simp[h]
 ·rw[if_neg hj]
noncomputable def y5 (p d x:Int):Int:=if x=0 then x else K9 p x d
theorem U0 (p d:Int) (w:World) (b o n c:Nat) (L:List Int) (hO:ja w b 2 (jc L)) (hn:o+n=L.length) (hc1:n≤c) (hc2:c≤1000000)
  (hp:PF p) (hL:∀x∈L,0≤x∧x<p) (hd:0<d∧d<p):
  Calls Tryz.prog 212 #[.iface 197 (.agg #[.int .i64 p]),.slice (some ⟨b,o,none⟩) n c,.int .i64 d] w fun e w'=>
   e = .returned (.tuple #[])∧ja w' b 2 (jc (kT (y5 p d) o n L))∧jh b w w':=by
 have hZ:=YS p;have hV:=DJ p;have HZ:=Lib.hid (fun (x:Int) W=>Zx p x W);have HO:=Lib.hid (fun (x:Int) W hx=>B4 p x d W hp hx hd);have HL:=Lib.hid hL;clear hp hd hL
 have hstart:ja w b 2 (jc (kT (y5 p d) o 0 L)):=by rw[VR];exact hO
 have hb:b<w.heap.size:=hO.lt;go_enter Tryz.func212,Tryz.ntmps212
 go_wp2_with fail
 clear hO
 go_loopw [6,7,10] (fun _ _ i wr=>∃(k:Nat),i = .int .i64 k∧k≤n∧ja wr b 2 (jc (kT (y5 p d) o k L))∧jh b w wr) (fun _ _ i _=>n-(intOf i).toNat)
 case atStart=>exact⟨0,rfl,by omega,hstart,jh.refl _ _⟩
 case round=>
  clear hstart;obtain⟨k,rfl,hk,hO,hB⟩:=hrel;by_cases hlt:k<n
  ·have hck:=(hO.cell (o+k)).trans (kh _ (o+k) (by rw[Y5];omega))
   rw[Y4] at hck;have hfr:=hO.free (o+k);have hx:=HL.out (L[o+k]?.getD 0) (by rw[List.getElem?_eq_getElem (by omega)];exact List.getElem_mem (by omega));have Hsame:=Lib.hid (NJ (y5 p d) o k L (by omega));have Hsucc:=Lib.hid (Y6 (y5 p d) o k L (by omega));generalize L[o+k]?.getD 0=x at *;by_cases h0:(x==0)=true
   ·have Hs:=Lib.hid (Hsame.out (by unfold y5;rw[if_pos (by simpa using h0)]))
    go_wp2_with fail
    refine(HZ.out _ _).mono ?_;rintro e w2 ⟨rfl,hB2⟩;have hB':=hB.below hB2;have hO':=hO.below hB2 hO.lt;clear hck hfr hO hB hx
    go_wp2
    refine⟨⟨k+1,by go_num,by omega,?_,hB'⟩,by simp[intOf];omega⟩;rw[Hs.out];exact hO'
   ·have h0':(x==0)=false:=by simpa using h0
    have Hv:=Lib.hid (show y5 p d x=K9 p x d by unfold y5;rw[if_neg (by simpa using h0)]);clear h0
    go_wp2_with fail
    refine(HZ.out _ _).mono ?_;rintro e w2 ⟨rfl,hB2⟩;have hB':=hB.below hB2;have hO':=hO.below hB2 hO.lt;clear hck hfr hO hB hB2
    go_wp2_with fail
    refine(HO.out _ _ hx).mono ?_;rintro e w3 ⟨rfl,hB3⟩;have hB:=hB'.below hB3;have hO:=hO'.below hB3 hO'.lt;have hck2:=(hO.cell (o+k)).trans (kh _ (o+k) (by rw[Y5];omega));have hfr:=hO.free (o+k);clear hB' hO' hB3 hx
    go_wp2
    refine⟨⟨k+1,by go_num,by omega,?_,hB.setCell _ rfl _⟩,by simp[intOf];omega⟩;rw[←Hsucc.out,Hv.out,←xF];exact hO.put _ _
  ·have hkk:k=n:=by omega
   subst hkk
   go_wp2
   go_end0
   exact⟨rfl,hO,hB⟩
