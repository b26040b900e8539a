/- The weights of inner lists. -/
import Derived.Test.YteagkgagdelklaaGreatDoorZT00
import Derived.Deep.DrawnRows
import Derived.Deep.RegionHeld3
import Derived.Deep.Upon
import Derived.LaidMore
import Derived.Laws.CopyOwn
import Derived.Lib.AppendIntMem
import Derived.Lib.AppendZeros
import Derived.Lib.LazyBuf
import Derived.Lib.OwnBridge
import Derived.Lib.SmallJoins
import Derived.LoopNIn
import Derived.OwnWalkIn
import Derived.RangeFuncBound
import Derived.RangeFuncNested
import Derived.Shelf.RegionOpen
import Derived.Shelf.Spec.BitsCarry
import Derived.Sort.LoopGhostIn
import Derived.StillTailTactics
import Derived.Test.YteagkgagdelklaaGreatDoorCards
import Derived.Test.YteagkgagdelklaaGreatDoorZSh
import Derived.Test.YteagkgagdelklaaGreatDoorTie
import Derived.WalkLawsBesides
import Derived.WalkSpells
set_option maxHeartbeats 1000000
namespace Go.Proofs.YteagkgagdelklaaGreatDoor
open Go.ChangeShapes Go.WideShapes Go.ChangeAt Go.RowKit Go.Lib
theorem EP {H:Type} {P:Program} {e:TypeId} {d:DataW H} {n:Nat} (hn:n∈d.weights P e):∀ {elems:List (DataW H)},d∈elems→n∈DataW.weightsAll P e elems
 | x::r,h=>by
  simp only[DataW.weightsAll,Qby];rcases List.mem_cons.1 h with rfl | h
  ·exact .inl hn
  ·exact .inr (EP hn h)
end Go.Proofs.YteagkgagdelklaaGreatDoor
namespace Go.Proofs.YteagkgagdelklaaGreatDoor
def sg (neg:Bool) (n:Nat):Int:=if neg then -(n:Int) else n
theorem Cd (neg:Bool) (n d:Nat):(if neg then mkRat (-(n:Int)) d else mkRat n d)=mkRat (sg neg n) d:=by cases neg <;> rfl
theorem OD (a b:Bool) (n m:Nat):sg a n*sg b m=sg ((a != b)&&decide (0<n*m)) (n*m):=by
 by_cases h:n*m=0
 ·rw[h]
  simp only[Qb8,decide_false,Bool.and_false];rcases Nat.mul_eq_zero.1 h with rfl | rfl
  ·cases a <;> simp[sg]
  ·cases b <;> simp[sg]
 ·rw[QaK (Nat.pos_of_ne_zero h),Bool.and_true]
  cases a <;> cases b <;> simp[sg,Int.neg_mul,Int.mul_neg]
theorem Yp (a:Bool) (n k:Nat):sg a (n*k)=sg a n*k:=by cases a <;> simp[sg,Int.neg_mul]
theorem Ch (n d m e:Nat) (hd:d≠0) (he:e≠0) (h1:Nat.gcd n d=1) (h2:Nat.gcd m e=1):
  Nat.gcd ((n/Nat.gcd n e)*(m/Nat.gcd m d)) ((d/Nat.gcd m d)*(e/Nat.gcd n e))=1:=by
 have c1:Nat.Coprime n d:=h1;have c2:Nat.Coprime m e:=h2
 show Nat.Coprime _ _
 rw[Nat.coprime_mul_iff_left,Nat.coprime_mul_iff_right,Nat.coprime_mul_iff_right];refine⟨⟨?_,?_⟩,⟨?_,?_⟩⟩
 ·exact(c1.coprime_div_left (Qco ..)).coprime_div_right (Qb6 ..)
 ·exact Nat.coprime_div_gcd_div_gcd (QaY _ (by omega))
 ·exact Nat.coprime_div_gcd_div_gcd (QaY _ (by omega))
 ·exact(c2.coprime_div_left (Qco ..)).coprime_div_right (Qb6 ..)
theorem Cg (a b:Bool) (n d m e:Nat) (hd:d≠0) (he:e≠0):
  mkRat (sg a n) d*mkRat (sg b m) e=mkRat (sg ((a != b)&&decide (0<(n/Nat.gcd n e)*(m/Nat.gcd m d))) ((n/Nat.gcd n e)*(m/Nat.gcd m d))) ((d/Nat.gcd m d)*(e/Nat.gcd n e)):=by
 have g1:0<Nat.gcd n e:=QaY _ (by omega);have g2:0<Nat.gcd m d:=QaY _ (by omega);rw[←OD,Rat.mkRat_mul_mkRat];have e1:n=(n/Nat.gcd n e)*Nat.gcd n e:=(Nat.div_mul_cancel (Qco n e)).symm;have e2:e=(e/Nat.gcd n e)*Nat.gcd n e:=(Nat.div_mul_cancel (Qb6 n e)).symm;have e3:m=(m/Nat.gcd m d)*Nat.gcd m d:=(Nat.div_mul_cancel (Qco m d)).symm;have e4:d=(d/Nat.gcd m d)*Nat.gcd m d:=(Nat.div_mul_cancel (Qb6 m d)).symm;generalize Nat.gcd n e=p at *;generalize Nat.gcd m d=q at *;generalize n/p=n' at *;generalize e/p=e' at *;generalize m/q=m' at *;generalize d/q=d' at *;subst e1 e2 e3 e4;rw[Yp,Yp]
 have r1:sg a n'*(p:Int)*(sg b m'*(q:Int))=sg a n'*sg b m'*((p*q:Nat):Int):=by
  rw[QaM];simp only[Int.mul_assoc,Int.mul_left_comm]
 have r2:d'*q*(e'*p)=d'*e'*(p*q):=by
  simp only[Nat.mul_left_comm,Qam]
 rw[r1,r2];exact Rat.mkRat_mul_right (Nat.mul_ne_zero (by omega) (by omega))
end Go.Proofs.YteagkgagdelklaaGreatDoor
namespace Go.Proofs.YteagkgagdelklaaGreatDoor
open Go
section
variable {P:Program} {ops:Array Oper} {Q:Exit→Act→World→Prop} {md:Region.Mode} {S:World→Prop}
def U5 (ops:Array Oper) (listed:Array Bool):Prop:=∃k,k<ops.size∧listed.getD k true=false
def zA (P:Program) (md:Region.Mode) (ops:Array Oper) (Q:Exit→Act→World→Prop) (S:World→Prop):Nat→Array Bool→Act→World→Prop
 | 0,listed,a,w=>Region.ready md ops listed=[]∧Q .normal a w
 | fuel+1,listed,a,w=>
  (Region.ready md ops listed=[]→Q .normal a w) ∧
  ∀i∈Region.ready md ops listed,wpOp P ops Q i (fun a' w'=>(U5 ops (listed.setIfInBounds i true)→S w')∧zA P md ops Q S fuel (listed.setIfInBounds i true) a' w') a w
theorem Vh:∀(fuel:Nat) (listed:Array Bool) (a:Act) (w:World),zA P md ops Q S fuel listed a w→wpAny P md ops Q fuel listed a w
 | 0,_,_,_,h=>h
 | fuel+1,_,_,_,h=>⟨h.1,fun i hi=>wpOp_mono (fun a' w' h'=>Vh fuel _ a' w' h'.2) (h.2 i hi)⟩
def YV (md:Region.Mode) (ops:Array Oper) (listed:Array Bool) (i:Nat):Bool:=
 (List.range ops.size).any fun k=>(listed.getD k true==false)&&k != i&&Region.waitsFor md ops k i
theorem SQ {i:Nat} {oi:Oper} {v:Value} (hi:ops[i]? =some oi) (hsel:∀(j:Nat) (o:Oper) cs b,ops[j]? =some o→o.op ≠ .select cs b)
  (hQ:∀c a w,Q (.panic c) (a.put oi.dst v) w→Q (.panic c) a w):
  ∀(fuel:Nat) (listed:Array Bool) (a:Act) (w:World),
   (∀j oj,ops[j]? =some oj→j≠i→listed.getD j true=false→(∀e∈oj.after,Region.binds md e=true→e.on≠i)→oi.apart ops oj=true) →
   i∈Region.ready md ops listed→YV md ops listed i=true→YieldsIf P ops S oi v a→S w →
   zA P md ops Q S fuel (listed.setIfInBounds i true) (a.put oi.dst v) w→zA P md ops Q S (fuel+1) listed a w:=by
 intro fuel
 induction fuel with
 | zero=>
  intro listed a w _ hr _ hy hS H;refine⟨fun h=>(by rw[h] at hr;cases hr),fun j hj=> ?_⟩;by_cases hji:j=i
  ·subst hji;exact hy.wpOp hi hS ⟨fun _=>hS,H⟩
  ·have:=ready_mono hj hji
   rw[H.1] at this;cases this
 | succ fuel ih=>
  intro listed a w hfree hr haw hy hS H;refine⟨fun h=>(by rw[h] at hr;cases hr),fun j hj=> ?_⟩;by_cases hji:j=i
  ·subst hji;exact hy.wpOp hi hS ⟨fun _=>hS,H⟩
  ·have h1:=H.2 j (ready_mono hj hji)
   obtain⟨hjun,oj,hoj,hall⟩:=mem_ready.1 hj;have hiun:=(mem_ready.1 hr).1
   have hno1:∀e:Edge,listed.getD e.on false=true→e.on≠i:=fun e h1 heq=>by
    rw[heq] at h1;rcases Qae i listed.size with h' | h'
    ·simp[h'] at hiun h1;rw[hiun] at h1;cases h1
    ·simp[Array.getElem?_eq_none h'] at h1
   have hnot:∀e∈oj.after,Region.binds md e=true→e.on≠i:=fun e he hb=>hno1 e (hall e he hb)
   obtain⟨k,hk,hkk⟩:=List.any_eq_true.1 haw;simp only[Qa7,beq_iff_eq,bne_iff_ne] at hkk;obtain⟨⟨hku,hki⟩,hkw⟩:=hkk;obtain⟨ok,hok,e,he,hb,hon⟩:=Region.waitsFor_spec hkw
   have hkj:j≠k:=fun heq=>by
    subst heq;have:ok=oj:=QaE (hok.symm.trans hoj);subst this;exact hnot e he hb hon
   have hkun:(listed.setIfInBounds j true).getD k true=false:=by rw[getD_set_ne true hkj];exact hku
   have hmore:U5 ops ((listed.setIfInBounds i true).setIfInBounds j true):=⟨k,List.mem_range.1 hk,by
    rw[getD_set_ne true hkj,getD_set_ne true (Ne.symm hki)];exact hku⟩
   have haw':YV md ops (listed.setIfInBounds j true) i=true:=by
    refine List.any_eq_true.2 ⟨k,hk,?_⟩;simp only[Qa7,beq_iff_eq,bne_iff_ne];exact⟨⟨hkun,hki⟩,hkw⟩
   have h2:=wpOp_putIf hoj (hfree j oj hoj hji hjun hnot) (fun cs b=>hsel i oi cs b hi) (fun cs b=>hsel j oj cs b hoj) hQ hy h1
   have hfree':∀k ok,ops[k]? =some ok→k≠i→(listed.setIfInBounds j true).getD k true=false →
     (∀e∈ok.after,Region.binds md e=true→e.on≠i)→oi.apart ops ok=true:=fun k ok hk hki hun hno=>by
    refine hfree k ok hk hki ?_ hno;by_cases hjk:j=k
    ·subst hjk;exact hjun
    ·rw[getD_set_ne true hjk] at hun;exact hun
   refine wpOp_mono (fun a' w' h3=>⟨fun _=>h3.2.1 hmore,ih (listed.setIfInBounds j true) a' w' hfree' (ready_mono hr (Ne.symm hji)) haw' h3.1 (h3.2.1 hmore) ?_⟩) h2;rw[Array.setIfInBounds_comm _ _ hji];exact h3.2.2
theorem kt {i:Nat} {oi:Oper} {v:Value} {fuel:Nat} {listed:Array Bool} {a:Act} {w:World} (hi:ops[i]? =some oi)
  (hs:Region.noSelect ops=true) (hf:Region.free md ops listed i=true) (hr:(Region.ready md ops listed).contains i=true) (haw:YV md ops listed i=true)
  (hQ:∀c a w,Q (.panic c) (a.put oi.dst v) w→Q (.panic c) a w) (hy:YieldsIf P ops S oi v a) (hS:S w)
  (h:zA P md ops Q S fuel (listed.setIfInBounds i true) (a.put oi.dst v) w):zA P md ops Q S (fuel+1) listed a w:=
 SQ hi (Region.noSelect_spec hs) hQ fuel listed a w (Region.free_spec hi hf) (by simpa using hr) haw hy hS h
theorem YU {i:Nat} {o:Oper} {fuel:Nat} {listed:Array Bool} {a:Act} {w:World} (hr:Region.ready md ops listed=[i]) (ho:ops[i]? =some o)
  (h:∀K':Act→World→Prop,Shut (∀a w,S w→(S w→zA P md ops Q S fuel (listed.setIfInBounds i true) a w)→K' a w)→if Region.wanted o (yielded ops a.tmps)=true then Oper.wp P o a w K' Q else K' (a.put o.dst undef) w):
  zA P md ops Q S (fuel+1) listed a w:=by
 refine⟨fun h0=>(by rw[h0] at hr;cases hr),fun j hj=> ?_⟩;rw[hr] at hj
 obtain rfl:j=i:=by simpa using hj
 exact wpOp_step ho (fun K' hK=>h K' (fun a w hS hW=>hK a w ⟨fun _=>hS,hW hS⟩))
theorem Vi {i:Nat} {o:Oper} {fuel:Nat} {listed:Array Bool} {a:Act} {w:World} (hr:Region.ready md ops listed=[i]) (ho:ops[i]? =some o)
  (hall:(List.range ops.size).all (fun k=>(listed.setIfInBounds i true).getD k true)=true) (hr2:Region.ready md ops (listed.setIfInBounds i true)=[])
  (h:∀K':Act→World→Prop,Shut (∀a w,Q .normal a w→K' a w)→if Region.wanted o (yielded ops a.tmps)=true then Oper.wp P o a w K' Q else K' (a.put o.dst undef) w):
  zA P md ops Q S (fuel+1) listed a w:=by
 refine⟨fun h0=>(by rw[h0] at hr;cases hr),fun j hj=> ?_⟩;rw[hr] at hj
 obtain rfl:j=i:=by simpa using hj
 refine wpOp_step ho (fun K' hK=>h K' (fun a w hW=>hK a w ⟨fun hm=> ?_,?_⟩))
 ·obtain⟨k,h1,h2⟩:=hm
  have:=List.all_eq_true.1 hall k (List.mem_range.2 h1);rw[h2] at this;cases this
 ·cases fuel with
  | zero=>exact⟨hr2,hW⟩
  | succ f=>exact⟨fun _=>hW,fun k hk=>by rw[hr2] at hk;cases hk⟩
theorem Mz {id:Nat} {a:Act} {w:World} (hm:P.follows .mixedOrders=true) (hS:S w.drew)
  (h:S w.drew→zA P .any ops Q S ops.size (Array.replicate ops.size false) a w.drew):(Code.region id ops true).wp P Q a w:=
 wp_region_any hm (Vh _ _ _ _ (h hS))
end
end Go.Proofs.YteagkgagdelklaaGreatDoor
namespace Go.Proofs.YteagkgagdelklaaGreatDoor
abbrev WB:Nat:=18446744073709551616
def jd:List Nat→Nat
 | []=>0
 | x::r=>x+WB*jd r
def jJ (ws:List Nat):Prop:=∀x∈ws,x<WB
def jH (ws:List Nat):List Nat:=(ws.reverse.dropWhile (· ==0)).reverse
def kp (ws:List Nat):Prop:=jH ws=ws
theorem Jn (l:List Nat):jH (l++[0])=jH l:=by simp[jH]
theorem Jm (l:List Nat) (x:Nat) (h:x≠0):jH (l++[x])=l++[x]:=by simp[jH,h]
theorem zl (ws:List Nat) (k:Nat) (hk:k<ws.length):ws.take (k+1)=ws.take k++[ws[k]?.getD 0]:=by
 rw[Qa5,Qaa hk];rfl
theorem Kg {P:List Nat→Prop} (h0:P []) (h1:∀l x,P l→P (l++[x])) (l:List Nat):P l:=by
 rw[←List.reverse_reverse l]
 induction l.reverse with
 | nil=>exact h0
 | cons x r ih=>rw[List.reverse_cons];exact h1 _ _ ih
theorem YK (a b:List Nat):jd (a++b)=jd a+WB^a.length*jd b:=by
 induction a with
 | nil=>simp[jd]
 | cons x r ih=>
  simp only[QbZ,jd,ih,QaR,QaD];rw[Qau,←Qal,Qam WB (_^_),Qb9]
theorem JO (l:List Nat) (x:Nat):jd (l++[x])=jd l+WB^l.length*x:=by rw[YK];simp[jd]
theorem Ic (ws:List Nat):jd (jH ws)=jd ws:=by
 refine Kg (P:=fun ws=>jd (jH ws)=jd ws) rfl (fun l x ih=> ?_) ws;by_cases h:x=0
 ·subst h;rw[Jn,ih,YK];simp[jd]
 ·rw[Jm l x h]
theorem YJ (ws:List Nat):kp (jH ws):=by
 refine Kg (P:=fun ws=>kp (jH ws)) rfl (fun l x ih=> ?_) ws;by_cases h:x=0
 ·subst h;rw[Jn];exact ih
 ·unfold kp;rw[Jm l x h,Jm l x h]
theorem PY:jJ []:=by unfold jJ;simp
theorem EZ {x:Nat} :jJ [x]↔x<WB:=by unfold jJ;simp
theorem yR {ws:List Nat} (h:jJ ws) (k:Nat):jJ (ws.take k):=fun x hx=>h x (Qbp hx)
theorem ka {ws:List Nat} (h:jJ ws) (k:Nat):ws[k]?.getD 0<WB:=by
 rcases Qae k ws.length with hk | hk
 ·rw[Qaa hk];exact h _ (Qay hk)
 ·rw[Qah hk];simp
theorem P9 {ws:List Nat} (h:jJ ws):jJ (jH ws):=by
 intro x hx;apply h;unfold jH at hx;rw[List.mem_reverse] at hx;exact List.mem_reverse.1 ((List.dropWhile_sublist _).mem hx)
theorem Ko (ws:List Nat):(jH ws).length≤ws.length:=by
 unfold jH;rw[QbD];have:=(List.dropWhile_sublist (fun x=>x==0) (l:=ws.reverse)).length_le;simpa using this
theorem xj {ws:List Nat} (h:jJ ws):jd ws<WB^ws.length:=by
 induction ws with
 | nil=>simp[jd]
 | cons x r ih=>
  have hx:=h x (by simp);have hr:=ih (fun y hy=>h y (by simp[hy]));simp only[jd,QaR,QaD];have:WB*(jd r+1)≤WB*WB^r.length:=Qan _ hr;rw[Qam (_^_) WB];rw[Qau,Qbr] at this;omega
theorem Km {ws:List Nat} (h:kp ws) (hne:ws≠[]):WB^(ws.length-1)≤jd ws:=by
 revert h hne;refine Kg (P:=fun ws=>kp ws→ws≠[]→WB^(ws.length-1)≤jd ws) (fun _ h=>absurd rfl h) (fun l x _ h _=> ?_) ws;by_cases hx:x=0
 ·subst hx
  unfold kp at h;rw[Jn] at h;have:=Ko l;rw[h] at this;simp at this;omega
 ·rw[JO]
  have:WB^l.length*1≤WB^l.length*x:=Qan _ (by omega)
  simp;omega
theorem PX {ws:List Nat} (h:kp ws):jd ws=0↔ws=[]:=by
 constructor
 ·intro h0
  rcases List.eq_nil_or_concat ws with rfl | ⟨l,x,rfl⟩
  ·rfl
  ·have:=Km h (by simp)
   have hp:0<WB^((l.concat x).length-1):=Nat.pow_pos (by decide);omega
 ·rintro rfl;rfl
theorem K8 {ws:List Nat} (h:kp ws) {n:Nat} (hv:jd ws<WB^n):ws.length≤n:=by
 rcases Qae n ws.length with hl | hl
 ·have hne:ws≠[]:=by intro e;subst e;simp at hl
  have:=Km h hne;have h2:WB^n≤WB^(ws.length-1):=Qai (by decide) (by omega);omega
 ·exact hl
theorem Qb {a b:List Nat} (ha:jJ a) (hb:kp b) (h:a.length<b.length):jd a<jd b:=by
 have h1:=xj ha;have h2:=Km hb (by intro e;subst e;simp at h);have h3:WB^a.length≤WB^(b.length-1):=Qai (by decide) (by omega);omega
theorem YL (ws:List Nat) (k:Nat) (hk:k<ws.length):jd ws=jd (ws.take k)+WB^k*(ws[k]?.getD 0+WB*jd (ws.drop (k+1))):=by
 have h:ws=ws.take k++(ws[k]?.getD 0::ws.drop (k+1)):=by
  rw[Qaa hk]
  simp
 conv=>lhs;rw[h]
 rw[YK];simp only[jd,Qak];rw[QaJ (by omega)]
theorem Re {a b:List Nat} (ha:jJ a) (hl:a.length=b.length) (k:Nat) (hk:k<a.length) (hd:a.drop (k+1)=b.drop (k+1)) (hlt:a[k]?.getD 0<b[k]?.getD 0):jd a<jd b:=by
 rw[YL a k hk,YL b k (by omega),hd];have h1:=xj (yR ha k);rw[Qak,QaJ (by omega)] at h1;generalize jd (b.drop (k+1))=D at *;generalize a[k]?.getD 0=x at *;generalize b[k]?.getD 0=y at *
 have h2:WB^k*(x+WB*D)+WB^k*1≤WB^k*(y+WB*D):=by rw[←Qau];exact Qan _ (by omega)
 omega
end Go.Proofs.YteagkgagdelklaaGreatDoor
namespace Go.Proofs.YteagkgagdelklaaGreatDoor
open Go.RowKit Go.Lib
def kV (p:List Int):Nat→List Bool→Nat→List Int×List Bool
 | 0,s,_=>([],s)
 | f+1,s,i=>if s[i]?.getD true=true then ([],s) else ((i:Int)::(kV p f (s.set i true) (p[i]?.getD 0).toNat).1,(kV p f (s.set i true) (p[i]?.getD 0).toNat).2)
def jZ (p:List Int):Nat→List (List Int)×List Bool
 | 0=>([],List.replicate p.length false)
 | k+1=>if (jZ p k).2[k]?.getD true=true then jZ p k else ((jZ p k).1++[(kV p p.length (jZ p k).2 k).1],(kV p p.length (jZ p k).2 k).2)
def qY (p:List Int):List (List Int):=(jZ p p.length).1
def Kl (s:List Bool):Nat:=s.countP (· ==false)
theorem PE (s:List Bool):Kl s≤s.length:=List.countP_le_length
theorem UQ:∀(s:List Bool) (i:Nat),s[i]? =some false→Kl (s.set i true)+1=Kl s
 | [],i,h=>by simp at h
 | x::s,0,h=>by simp at h;subst h;simp[Kl]
 | x::s,i+1,h=>by
  have:=UQ s i (by simpa using h);unfold Kl at *;rw[Qav,List.countP_cons,List.countP_cons];omega
theorem Wn (p:List Int):∀(f:Nat) (s:List Bool) (i:Nat),(kV p f s i).2.length=s.length
 | 0,s,i=>rfl
 | f+1,s,i=>by
  rw[kV];split
  ·rfl
  ·simp[Wn p f]
theorem DX (p:List Int) (f:Nat) (s:List Bool) (i:Nat) (h:s[i]?.getD true=true):kV p f s i=([],s):=by
 cases f with
 | zero=>rfl
 | succ f=>rw[kV,if_pos h]
theorem XC (p:List Int):∀k,(jZ p k).2.length=p.length
 | 0=>by simp[jZ]
 | k+1=>by
  rw[jZ];split
  ·exact XC p k
  ·rw[Wn];exact XC p k
theorem VI (p:List Int) (k:Nat):∀m,∃t,(jZ p (k+m)).1=(jZ p k).1++t
 | 0=>⟨[],by simp⟩
 | m+1=>by
  obtain⟨t,ht⟩:=VI p k m;rw[←Qb9,jZ];split
  ·exact⟨t,ht⟩
  ·exact⟨t++[(kV p p.length (jZ p (k+m)).2 (k+m)).1],by rw[ht];simp⟩
theorem Np (p:List Int) {k:Nat} (hk:k<p.length) (h:(jZ p k).2[k]?.getD true=false):
  ∃post,qY p=(jZ p k).1++(kV p p.length (jZ p k).2 k).1::post:=by
 obtain⟨t,ht⟩:=VI p (k+1) (p.length-(k+1));rw[show k+1+(p.length-(k+1))=p.length by omega] at ht;unfold qY;rw[ht,jZ,if_neg (by rw[h];decide)];exact⟨t,by simp⟩
def Ya (ops:Array Oper):Bool:=ops.all fun o=>match o.op with | .defer _=>false | _=>true
theorem Cu {ops:Array Oper} (h:Ya ops=true) {i:Nat} {o:Oper} (ho:ops[i]? =some o):∀c,o.op ≠ .defer c:=by
 intro c hc;have hm:o∈ops:=Array.mem_of_getElem? ho;have:=Array.all_eq_true'.1 h o hm;rw[hc] at this;cases this
section
variable {F:Fence} {n l:Nat} {P:Program} {ops:Array Oper} {Q:Exit→Act→World→Prop} {md:Region.Mode}
theorem P6 {i:Nat} {K K':Act→World→Prop} {a:Act} {w:World} (hd:Ya ops=true) (hK:∀a w,K a w→K' a w)
  (hh:wpOpIn F n P ops Q i K a w):wpOpIn (F.inRound l) n P ops Q i K' a w:=by
 have hh:=wpOpIn_mono hK hh;unfold wpOpIn at *;split
 ·rename_i hn;simpa [hn] using hh
 ·rename_i o ho
  simp only[ho] at hh;split
  ·rename_i hw
   simp only[hw,if_true] at hh;unfold Oper.wpIn at *;rw[Oper.semAt_eq _ _ _ (Cu hd ho)] at hh ⊢;exact hh
  ·rename_i hw;simpa [hw] using hh
theorem E4 (hd:Ya ops=true):∀(fuel:Nat) (listed:Array Bool) (a:Act) (w:World),wpAnyIn F n P md ops Q fuel listed a w→wpAnyIn (F.inRound l) n P md ops Q fuel listed a w
 | 0,_,_,_,h=>h
 | fuel+1,_,_,_,h=>⟨h.1,fun i hi=>P6 hd (fun a w hh=>E4 hd fuel _ a w hh) (h.2 i hi)⟩
theorem PZ {id:Nat} {a:Act} {w:World} (hm:P.follows .mixedOrders=true) (hd:Ya ops=true)
  (h:wpAnyIn F n P .any ops Q ops.size (Array.replicate ops.size false) a w.drew):(Code.region id ops true).wpIn (F.inRound l) n P Q a w:=
 wpIn_region_any hm (E4 hd _ _ _ _ h)
end
end Go.Proofs.YteagkgagdelklaaGreatDoor
namespace Go.Proofs.YteagkgagdelklaaGreatDoor
open Go.RowKit
def xA (r:Int):Bool:=decide ((97≤r∧r≤122)∨(65≤r∧r≤90))
theorem J6 (r:Int) (w:World):Calls Tryz.prog 73 #[.int .i32 r] w fun e w'=>e = .returned (.bool (xA r))∧w=w':=by
 by_cases h1:97≤r
 ·by_cases h2:r≤122
  ·have Hd:=Lib.hid (show xA r=true by simp[xA];omega)
   go_enter Tryz.func73,Tryz.ntmps73
   go_wp2
   go_ret;exact⟨by rw[Hd.out];rfl,rfl⟩
  ·have Hd:=Lib.hid (show xA r=false by simp[xA];omega)
   have h3:65≤r:=by omega
   have h4:¬r≤90:=by omega
   go_enter Tryz.func73,Tryz.ntmps73
   go_wp2
   go_ret;exact⟨by rw[Hd.out];rfl,rfl⟩
 ·by_cases h3:65≤r
  ·by_cases h4:r≤90
   ·have Hd:=Lib.hid (show xA r=true by simp[xA];omega)
    go_enter Tryz.func73,Tryz.ntmps73
    go_wp2
    go_ret;exact⟨by rw[Hd.out];rfl,rfl⟩
   ·have Hd:=Lib.hid (show xA r=false by simp[xA];omega)
    go_enter Tryz.func73,Tryz.ntmps73
    go_wp2
    go_ret;exact⟨by rw[Hd.out];rfl,rfl⟩
  ·have Hd:=Lib.hid (show xA r=false by simp[xA];omega)
   go_enter Tryz.func73,Tryz.ntmps73
   go_wp2
   go_ret;exact⟨by rw[Hd.out];rfl,rfl⟩
end Go.Proofs.YteagkgagdelklaaGreatDoor
namespace Go.Proofs.YteagkgagdelklaaGreatDoor
structure Fd (T:Type) where
 z:T
 isZ:T→Bool
 sub:T→T→T
 mul:T→T→T
 div:T→T→T
abbrev jR (T:Type):=Nat×Nat×List T
section
variable {T:Type} (F:Fd T)
def jL (R:List (jR T)) (i:Nat):List T:=(R[i]?.map (·.2.2)).getD []
def jC (R:List (jR T)) (i j:Nat):T:=(jL R i)[j]?.getD F.z
def setRow (R:List (jR T)) (i:Nat) (L:List T):List (jR T):=R.modify i fun r=>(r.1,r.2.1,L)
def kU {α:Type} (R:List α) (i j:Nat):List α:=
 match R[i]?,R[j]? with
 | some a,some b=>(R.set i b).set j a
 | _,_=>R
def j3 (d:T) (o:Nat) (L:List T):List T:=L.mapIdx fun j x=>if o≤j then (if F.isZ x=true then x else F.div x d) else x
def kY (o:Nat) (L P:List T):List T:=
 if F.isZ (L[o]?.getD F.z)=true then L else L.mapIdx fun j y=>if o≤j then (if F.isZ (P[j]?.getD F.z)=true then y else F.sub y (F.mul (L[o]?.getD F.z) (P[j]?.getD F.z))) else y
def jY (top o:Nat) (P:List T) (R:List (jR T)) (k:Nat):List (jR T):=R.mapIdx fun i r=>if i<k∧i≠top then (r.1,r.2.1,kY F o r.2.2 P) else r
def yn (R:List (jR T)) (j:Nat):Nat→Nat→Option Nat
 | 0,_=>none
 | k+1,i=>if F.isZ (jC F R i j)=true then yn R j k (i+1) else some i
def kK (R:List (jR T)) (top:Nat):Nat→Nat→Option (Nat×Nat)
 | 0,_=>none
 | k+1,j=>match yn F R j (R.length-top) top with
  | some i=>some (i,j)
  | none=>kK R top k (j+1)
structure jw (T:Type) where
 rows:List (jR T)
 cols:List Nat
 piv:List T
 odd:Bool
def j8 (row:Nat) (S:jw T):List (jR T):=if row=S.cols.length then S.rows else kU S.rows row S.cols.length
def elPiv (row col:Nat) (S:jw T):T:=jC F (j8 row S) S.cols.length col
def elDiv (row col:Nat) (S:jw T):List (jR T):=setRow (j8 row S) S.cols.length (j3 F (elPiv F row col S) col (jL (j8 row S) S.cols.length))
def kg (row col:Nat) (S:jw T):jw T:=
 ⟨jY F S.cols.length col (jL (elDiv F row col S) S.cols.length) (elDiv F row col S) (elDiv F row col S).length,S.cols++[col],S.piv++[elPiv F row col S],if row=S.cols.length then S.odd else !S.odd⟩
def jy (n:Nat):Nat→Nat→jw T→jw T
 | 0,_,S=>S
 | k+1,from_,S=>match kK F S.rows S.cols.length (n-from_) from_ with
  | none=>S
  | some (row,col)=>jy n k (col+1) (kg F row col S)
end
section
variable {T:Type} {F:Fd T} {R:List (jR T)}
theorem DJ {j i:Nat} (k s:Nat) (h1:s≤i) (h2:i<s+k) (h3:F.isZ (jC F R i j)=false) (h4:∀t,s≤t→t<i→F.isZ (jC F R t j)=true):yn F R j k s=some i:=by
 induction k generalizing s with
 | zero=>omega
 | succ k ih=>
  unfold yn;by_cases hs:s=i
  ·subst hs;rw[if_neg (by rw[h3];simp)]
  ·rw[if_pos (h4 s (Nat.le_refl _) (by omega))]
   exact ih (s+1) (by omega) (by omega) (fun t a b=>h4 t (by omega) b)
theorem Zs {j:Nat} (k s:Nat) (h4:∀t,s≤t→t<s+k→F.isZ (jC F R t j)=true):yn F R j k s=none:=by
 induction k generalizing s with
 | zero=>rfl
 | succ k ih=>
  unfold yn;rw[if_pos (h4 s (Nat.le_refl _) (by omega))];exact ih (s+1) (fun t a b=>h4 t (by omega) (by omega))
theorem Uf {top i j:Nat} (k s:Nat) (h1:s≤j) (h2:j<s+k) (ht:top≤i) (hi:i<R.length) (h3:F.isZ (jC F R i j)=false) (h4:∀t,top≤t→t<i→F.isZ (jC F R t j)=true)
  (h5:∀c,s≤c→c<j → ∀t,top≤t→t<R.length→F.isZ (jC F R t c)=true):kK F R top k s=some (i,j):=by
 induction k generalizing s with
 | zero=>omega
 | succ k ih=>
  unfold kK;by_cases hs:s=j
  ·subst hs;rw[DJ _ _ ht (by omega) h3 h4]
  ·rw[Zs _ _ (fun t a b=>h5 s (Nat.le_refl _) (by omega) t a (by omega))]
   exact ih (s+1) (by omega) (by omega) (fun c a b=>h5 c (by omega) b)
theorem GW {top:Nat} (k s:Nat) (h5:∀c,s≤c→c<s+k → ∀t,top≤t→t<R.length→F.isZ (jC F R t c)=true):kK F R top k s=none:=by
 induction k generalizing s with
 | zero=>rfl
 | succ k ih=>
  unfold kK;rw[Zs _ _ (fun t a b=>h5 s (Nat.le_refl _) (by omega) t a (by omega))];exact ih (s+1) (fun c a b=>h5 c (by omega) (by omega))
theorem K5 {α:Type} {R:List α} {i j:Nat} {a b:α} (hi:R[i]? =some a) (hj:R[j]? =some b):kU R i j=(R.set i b).set j a:=by
 unfold kU;rw[hi,hj]
theorem QZ {α:Type} (R:List α) (i j:Nat):(kU R i j).length=R.length:=by
 unfold kU;split <;> simp
theorem Ki {α:Type} {R:List α} {i j:Nat} {x:α} (h:x∈kU R i j):x∈R:=by
 unfold kU at h;split at h
 ·rename_i a b ha hb
  rcases QaN h with h | rfl
  ·rcases QaN h with h | rfl
   ·exact h
   ·exact Qab hb
  ·exact Qab ha
 ·exact h
theorem K4 {α:Type} (R:List α) (i j:Nat):List.Perm (kU R i j) R:=by
 unfold kU;split
 ·rename_i a b ha hb
  obtain⟨hi,rfl⟩:=List.getElem?_eq_some_iff.1 ha;obtain⟨hj,rfl⟩:=List.getElem?_eq_some_iff.1 hb;exact List.set_set_perm hi hj
 ·exact List.Perm.refl _
theorem Q0 {α:Type} {R:List α} {i j:Nat} {a b:α} (hi:R[i]? =some a) (hj:R[j]? =some b):(kU R i j)[j]? =some a:=by
 rw[K5 hi hj,QaS (by rw[Qbz];exact(List.getElem?_eq_some_iff.1 hj).1)]
theorem Ke (i:Nat) (L:List T):(setRow R i L).length=R.length:=by simp[setRow]
theorem qG {i:Nat} {r:jR T} (h:R[i]? =some r) (L:List T):(setRow R i L)[i]? =some (r.1,r.2.1,L):=by simp[setRow,h]
theorem xQ {i k:Nat} (h:i≠k) (L:List T):(setRow R i L)[k]? =R[k]? :=by simp[setRow,h]
theorem Kd (i:Nat) (L:List T):(setRow R i L).map (·.1)=R.map (·.1):=by
 apply Qaw;intro k;simp only[setRow,Qao,List.getElem?_modify]
 cases R[k]? with
 | none=>rfl
 | some r=>by_cases h:i=k <;> simp[h]
theorem UC (i:Nat) (L:List T) {β:Type} (f:Nat→Nat→β):(setRow R i L).map (fun r=>f r.1 r.2.1)=R.map (fun r=>f r.1 r.2.1):=by
 apply Qaw;intro k;simp only[setRow,Qao,List.getElem?_modify]
 cases R[k]? with
 | none=>rfl
 | some r=>by_cases h:i=k <;> simp[h]
theorem Oy {i:Nat} {L:List T} {x:jR T} (h:x∈setRow R i L):(x∈R)∨(∃r∈R,R[i]? =some r∧x=(r.1,r.2.1,L)):=by
 obtain⟨k,hk⟩:=List.mem_iff_getElem?.1 h;by_cases h:i=k
 ·subst h
  cases hr:R[i]? with
  | none=>simp[setRow,hr] at hk
  | some r=>rw[qG hr] at hk;exact .inr ⟨r,Qab hr,rfl,(QaE hk).symm⟩
 ·rw[xQ h] at hk;exact .inl (Qab hk)
theorem Yo {i:Nat} {r:jR T} (h:R[i]? =some r):setRow R i r.2.2=R:=by
 apply Qaw;intro k;by_cases hk:i=k
 ·subst hk;rw[qG h,h]
 ·rw[xQ hk]
theorem qF {i:Nat} {r:jR T} (h:R[i]? =some r):jL R i=r.2.2:=by unfold jL;rw[h];rfl
variable {top o:Nat} {P:List T}
theorem VD (k:Nat):(jY F top o P R k).length=R.length:=by simp[jY]
theorem Xz:jY F top o P R 0=R:=by
 apply Qaw;intro k;simp only[jY,Qaj,Nat.not_lt_zero,false_and,Qcf];cases R[k]? <;> rfl
theorem Ql (k:Nat):(jY F top o P R k)[k]? =R[k]? :=by
 simp only[jY,Qaj,Qb8,false_and,Qcf];cases R[k]? <;> rfl
theorem Xy (k:Nat):(jY F top o P R k)[top]? =R[top]? :=by
 simp only[jY,Qaj,ne_eq,not_true,and_false,Qcf];cases R[top]? <;> rfl
theorem Xw:jY F top o P R (top+1)=jY F top o P R top:=by
 apply Qaw;intro k;simp only[jY,Qaj]
 cases R[k]? with
 | none=>rfl
 | some r=>
  simp only[QaC,QaT];by_cases h:k<top
  ·rw[if_pos ⟨by omega,by omega⟩,if_pos ⟨h,by omega⟩]
  ·rw[if_neg (by omega),if_neg (by omega)]
theorem Xx {k:Nat} (hk:k≠top) {r:jR T} (hr:R[k]? =some r):setRow (jY F top o P R k) k (kY F o r.2.2 P)=jY F top o P R (k+1):=by
 apply Qaw;intro j;by_cases hj:k=j
 ·subst hj
  rw[qG (Ql k ▸ hr)];simp only[jY,Qaj,hr,QaC,QaT];rw[if_pos ⟨by omega,hk⟩]
 ·rw[xQ hj]
  simp only[jY,Qaj]
  cases R[j]? with
  | none=>rfl
  | some q=>
   simp only[QaC,QaT];by_cases h:j<k∧j≠top
   ·rw[if_pos h,if_pos ⟨by omega,h.2⟩]
   ·rw[if_neg h,if_neg (by omega)]
theorem Jz (d:T) (o:Nat) (L:List T):(j3 F d o L).length=L.length:=by simp[j3]
theorem Xv (o:Nat) (L P:List T):(kY F o L P).length=L.length:=by unfold kY;split <;> simp
end
def km {T:Type} (f:List T→List T) (R:List (jR T)) (k:Nat):List (jR T):=R.mapIdx fun i r=>if i<k then (r.1,r.2.1,f r.2.2) else r
section
variable {T:Type} {f:List T→List T} {R:List (jR T)}
theorem Qz (k:Nat):(km f R k).length=R.length:=by simp[km]
theorem X8:km f R 0=R:=by
 apply Qaw;intro k;simp only[km,Qaj,Nat.not_lt_zero,Qcf];cases R[k]? <;> rfl
theorem X6 (k:Nat):(km f R k)[k]? =R[k]? :=by
 simp only[km,Qaj,Qb8,Qcf];cases R[k]? <;> rfl
theorem ZM {k:Nat} {r:jR T} (hr:R[k]? =some r):setRow (km f R k) k (f r.2.2)=km f R (k+1):=by
 apply Qaw;intro j;by_cases hj:k=j
 ·subst hj
  rw[qG (X6 k ▸ hr)];simp only[km,Qaj,hr,QaC,QaT];rw[if_pos (by omega)]
 ·rw[xQ hj]
  simp only[km,Qaj]
  cases R[j]? with
  | none=>rfl
  | some q=>
   simp only[QaC,QaT];by_cases h:j<k
   ·rw[if_pos h,if_pos (by omega)]
   ·rw[if_neg h,if_neg (by omega)]
theorem ZL:km f R R.length=R.map fun r=>(r.1,r.2.1,f r.2.2):=by
 apply Qaw;intro j;simp only[km,Qaj,Qao];rcases Qae j R.length with h | h
 ·rw[Qaa h];simp[h]
 ·rw[Qah h];rfl
theorem Gf (k:Nat):(km f R k).map (·.1)=R.map (·.1):=by
 apply Qaw;intro j;simp only[km,Qao,Qaj]
 cases R[j]? with
 | none=>rfl
 | some r=>by_cases h:j<k <;> simp[h]
def nsSet (F:Fd T) (zero:T) (S:jw T) (col k:Nat) (L:List T):List T:=(List.range k).foldl (fun l i=>l.set (S.cols[i]?.getD 0) (F.sub zero (jC F S.rows i col))) L
def x8 (F:Fd T) (zero one:T) (n:Nat) (S:jw T) (col:Nat):List T:=(nsSet F zero S col S.cols.length ((List.replicate n zero).set col one)).reverse
def nsBasis (F:Fd T) (zero one:T) (n:Nat) (S:jw T):Nat→List (List T)
 | 0=>[]
 | k+1=>nsBasis F zero one n S k++(if S.cols.contains (n-1-k)=true then [] else [x8 F zero one n S (n-1-k)])
theorem yL (F:Fd T) (zero:T) (S:jw T) (col k:Nat) (L:List T):(nsSet F zero S col k L).length=L.length:=by
 induction k with
 | zero=>rfl
 | succ k ih=>unfold nsSet at *;rw[Qcj,List.foldl_append];simp[ih]
theorem Jd (F:Fd T) (zero:T) (S:jw T) (col k:Nat) (L:List T):nsSet F zero S col (k+1) L=(nsSet F zero S col k L).set (S.cols[k]?.getD 0) (F.sub zero (jC F S.rows k col)):=by
 unfold nsSet;rw[Qcj,List.foldl_append];rfl
end
section
variable {T:Type} {F:Fd T} {R:List (jR T)}
theorem DI {j i:Nat} (k s:Nat) (h:yn F R j k s=some i):s≤i∧i<s+k∧F.isZ (jC F R i j)=false:=by
 induction k generalizing s with
 | zero=>cases h
 | succ k ih=>
  unfold yn at h;split at h
  ·have:=ih (s+1) h;exact⟨by omega,by omega,this.2.2⟩
  ·rename_i hz
   obtain rfl:=QaE h;exact⟨Nat.le_refl _,by omega,by simpa using hz⟩
theorem Ue {top i j:Nat} (k s:Nat) (h:kK F R top k s=some (i,j)):s≤j∧j<s+k∧top≤i∧i<R.length∧F.isZ (jC F R i j)=false:=by
 induction k generalizing s with
 | zero=>cases h
 | succ k ih=>
  unfold kK at h;split at h
  ·rename_i x hx
   simp only[QaT,Prod.mk.injEq] at h;obtain⟨rfl,rfl⟩:=h;have:=DI _ _ hx;exact⟨Nat.le_refl _,by omega,this.1,by omega,this.2.2⟩
  ·have:=ih (s+1) h;exact⟨by omega,by omega,this.2.2⟩
theorem Zm {n:Nat} (k fr:Nat) (S:jw T) (hfr:fr≤n) (h:∀c∈S.cols,c<fr):∀c∈(jy F n k fr S).cols,c<n:=by
 induction k generalizing fr S with
 | zero=>exact fun c hc=>Qac (h c hc) hfr
 | succ k ih=>
  unfold jy;split
  ·exact fun c hc=>Qac (h c hc) hfr
  ·rename_i row col hp
   have hb:=Ue _ _ hp;refine ih (col+1) _ (by omega) ?_;intro c hc;simp only[kg,Qby,Qb3] at hc;rcases hc with hc | rfl
   ·have:=h c hc;omega
   ·omega
end
end Go.Proofs.YteagkgagdelklaaGreatDoor
namespace Go.Proofs.YteagkgagdelklaaGreatDoor
open Go.RowKit Go.Lib
theorem WG (up vp uk vk:Nat) (s:Bool) (w:World):
  Calls Tryz.prog 127 #[.agg #[.int .u64 up,.int .u64 vp,.int .u64 uk,.int .u64 vk,.bool s]] w fun e w'=>e = .returned (.bool (decide (vp=0)))∧Below w.heap.size w w':=by
 by_cases h:vp=0
 ·subst h
  go_enter Tryz.func127,Tryz.ntmps127
  go_wp2
  go_ret;exact⟨rfl,(Below.refl _ _).alloc (Nat.le_refl _) _⟩
 ·have hb:((vp:Int)==0)=false:=by simpa using h
  have hd:=hid (Qat h);clear h;go_enter Tryz.func127,Tryz.ntmps127
  go_wp2
  go_ret;exact⟨by rw[hd.out];rfl,(Below.refl _ _).alloc (Nat.le_refl _) _⟩
end Go.Proofs.YteagkgagdelklaaGreatDoor
namespace Go.Proofs.YteagkgagdelklaaGreatDoor
open Go.Lib
def j7 (l:List UInt8):Prop:=∀c∈l,48≤c.toNat∧c.toNat≤57
def za:List UInt8→Nat→Nat
 | [],v=>v
 | c::r,v=>za r (10*v+(c.toNat-48))
def jf (l:List UInt8):Nat:=za l 0
theorem zC (v:Nat):za [] v=v:=rfl
theorem z7 (c:UInt8) (r:List UInt8) (v:Nat):za (c::r) v=za r (10*v+(c.toNat-48)):=rfl
theorem Nr (v:Nat) (a b:List UInt8):za (a++b) v=za b (za a v):=by
 induction a generalizing v with
 | nil=>rfl
 | cons c r ih=>exact ih _
theorem Gq (v p d:Nat):(10*v+d)*p=v*(p*10)+d*p:=by
 rw[Qaz,Qam 10 v,Qal,Qam 10 p]
theorem Ns (v:Nat) (l:List UInt8):za l v=v*10^l.length+za l 0:=by
 induction l generalizing v with
 | nil=>rw[zC,zC,QbA,Qb0,Qbr,Qbf]
 | cons c r ih=>
  rw[z7,z7,ih,ih (10*0+(c.toNat-48)),QaR,QaD,Gq,Gq,Nat.zero_mul,Qbi,Qb9]
theorem JZ (a b:List UInt8):jf (a++b)=jf a*10^b.length+jf b:=by
 unfold jf;rw[Nr,Ns]
theorem JW {l:List UInt8} (h:j7 l) (k:Nat):j7 (l.take k):=fun c hc=>h c (Qbp hc)
theorem YT {l:List UInt8} (h:j7 l) (k:Nat):j7 (l.drop k):=fun c hc=>h c (Qb5 hc)
theorem xf {l:List UInt8} (h:j7 l):jf l<10^l.length:=by
 induction l with
 | nil=>rw[jf,zC,QbA,Qb0];exact Nat.zero_lt_one
 | cons c r ih=>
  have h1:=ih (fun x hx=>h x (by simp[hx]));have h2:=h c (by simp)
  have e:jf (c::r)=(c.toNat-48)*10^r.length+jf r:=by
   have:=JZ [c] r;rw[show jf [c]=c.toNat-48 from by rw[jf,z7,zC];omega] at this;exact this
  rw[e,QaR,QaD];have:(c.toNat-48)*10^r.length≤9*10^r.length:=Qas _ (by omega);omega
theorem Fe (M acc:Nat) (l:List UInt8) (h:j7 l) (hM:9999999999999999999≤M) (hb:(acc+1)*10^l.length≤10000000000000000000):parseUintM M acc l = .ok (za l acc):=by
 induction l generalizing acc with
 | nil=>rfl
 | cons c r ih=>
  have h2:=h c (by simp);have hp:1≤10^r.length:=Qcm _ _ (by decide);rw[QaR,QaD] at hb
  have hs:(acc*10+(c.toNat-48)+1)*10^r.length≤10000000000000000000:=by
   refine Qap (Qas _ (show acc*10+(c.toNat-48)+1≤(acc+1)*10 from by omega)) ?_;rw[Qal,Qam 10];exact hb
  have ha:acc*10+(c.toNat-48)+1≤10000000000000000000:=Qap (QbI _ hp) hs;unfold parseUintM;rw[if_pos h2,if_neg (by omega),if_neg (by omega),ih _ (fun x hx=>h x (by simp[hx])) hs];rw[z7,Qam 10 acc]
theorem Fc (l:List UInt8) (h:j7 l) (h0:l≠[]) (hl:l.length≤19):parseUintB 64 l = .ok (jf l):=by
 unfold parseUintB;rw[if_neg h0];refine Fe _ 0 l h (by decide) ?_;have:10^l.length≤10^19:=Qai (by decide) hl;omega
end Go.Proofs.YteagkgagdelklaaGreatDoor
namespace Go.Proofs.YteagkgagdelklaaGreatDoor
open Go.RowKit
theorem zi {k k2:IntKind} {a b c d:Int} (h:a=b) (h2:c=d):Ending.returned (.tuple #[.int k a,.int k2 c]) = .returned (.tuple #[.int k b,.int k2 d]):=by rw[h,h2]
theorem JK {k:IntKind} {a b:Int} (h:a=b):Ending.returned (.int k a) = .returned (.int k b):=by rw[h]
theorem FM {P:Program} {f:FuncId} {args:Array Value} {w:World} {n:Nat} {v:Value}
  (h:Calls P f args (w.drewN n) fun e w'=>e = .returned v∧w.drewN n=w'):Calls P f args (w.drewN n) fun e w''=>e = .returned v ∧ ∃m,w''=w.drewN m:=
 h.mono fun _ _ ⟨he,hm⟩=>⟨he,n,hm.symm⟩
def Sl (w:World) (z:Nat) (v:Value) (xs:List Value):Prop:=
 ∃A n c,v = .slice A n c∧n≤c∧c≤140737488355328∧xs.length=n*z ∧
  (0<n → ∃b off,A=some ⟨b,off,none⟩∧b<w.heap.size ∧ ∀j u,xs[j]? =some u→w.cell? ⟨b,off+j,none⟩=some u)
section
variable {w w':World} {z:Nat} {v:Value} {xs:List Value}
theorem Sl.keep (h:Sl w z v xs) (hs:w.heap.size≤w'.heap.size) (hk:∀b o,b<w.heap.size→w'.cell? ⟨b,o,none⟩=w.cell? ⟨b,o,none⟩):Sl w' z v xs:=by
 obtain⟨A,n,c,hv,h1,h2,h3,h4⟩:=h;refine⟨A,n,c,hv,h1,h2,h3,fun hn=> ?_⟩;obtain⟨b,off,hA,hb,hc⟩:=h4 hn;exact⟨b,off,hA,by omega,fun j u hu=>by rw[hk _ _ hb];exact hc j u hu⟩
theorem Sl.below (h:Sl w z v xs) (hb:Below w.heap.size w w'):Sl w' z v xs:=
 h.keep hb.size fun b o hlt=>hb.cell (p:=⟨b,o,none⟩) hlt
theorem Sl.alloc (h:Sl w z v xs) (o:Obj):Sl (w.alloc o) z v xs:=h.below ((Below.refl _ _).alloc (Nat.le_refl _) o)
theorem Sl.nil:Sl w z (.slice none 0 0) []:=⟨none,0,0,rfl,by omega,by omega,by simp,fun h=>by omega⟩
theorem Sl.new (w:World) (t:TypeId) (cs:Array Value) (hs:cs.size≤140737488355328):Sl (w.alloc (.cells cs t)) 1 (.slice (some ⟨w.heap.size,0,none⟩) cs.size cs.size) cs.toList:=by
 refine⟨_,_,_,rfl,by omega,hs,by simp,fun _=>⟨w.heap.size,0,rfl,by simp,fun j u hu=> ?_⟩⟩;rw[World.cell?_alloc_at _ _ _ _ rfl,Qbi];simpa using hu
theorem Sl.lit (w:World) (t:TypeId) (cs:Array Value) (n:Nat) (hn:cs.size=n) (hs:n≤140737488355328):Sl (w.alloc (.cells cs t)) 1 (.slice (some ⟨w.heap.size,0,none⟩) n n) cs.toList:=by
 subst hn;exact Sl.new w t cs hs
theorem Sl.form (h:Sl w 1 v xs):∃A c,v = .slice A xs.length c∧xs.length≤c∧c≤140737488355328:=by
 obtain⟨A,n,c,hv,h1,h2,h3,h4⟩:=h
 have:n=xs.length:=by omega
 subst this;exact⟨A,c,hv,h1,h2⟩
theorem Sl.at_ {A:Option Addr} {n c:Nat} (h:Sl w 1 (.slice A n c) xs) {k:Nat} (hk:k<xs.length):
  ∃b off,A=some ⟨b,off,none⟩∧b<w.heap.size ∧ ∀j,j<xs.length→w.cell? ⟨b,off+j,none⟩=xs[j]? :=by
 obtain⟨A',n',c',hv,h1,h2,h3,h4⟩:=h
 obtain⟨rfl,rfl,rfl⟩:A=A'∧n=n'∧c=c':=by simpa using hv
 obtain⟨b,off,hA,hb,hc⟩:=h4 (by omega);exact⟨b,off,hA,hb,fun j hj=>by rw[Qaa hj];exact hc j _ (Qaa hj)⟩
theorem Sl.take {A:Option Addr} {n c k:Nat} (h:Sl w 1 (.slice A n c) xs) (hk:k≤n):Sl w 1 (.slice A k c) (xs.take k):=by
 obtain⟨A',n',c',hv,h1,h2,h3,h4⟩:=h
 obtain⟨rfl,rfl,rfl⟩:A=A'∧n=n'∧c=c':=by simpa using hv
 refine⟨A,k,c,rfl,by omega,h2,by simp;omega,fun hn=> ?_⟩;obtain⟨b,off,hA,hb,hc⟩:=h4 (by omega);refine⟨b,off,hA,hb,fun j u hu=>hc j u ?_⟩;rw[QbR] at hu;split at hu
 ·exact hu
 ·cases hu
end
def jz (ws:List Nat):List Value:=ws.map fun (x:Nat)=>Value.int .u64 (x:Int)
def kw (w:World) (Pc:Value→Prop) (v:Value):Prop:=∀g cur e,v.ownBlock=some g→w.heap[g]? =some (.cells cur e (0,0)) → ∀c∈cur.toList,Pc c
theorem kw.nil (w:World) (Pc:Value→Prop):kw w Pc (.slice none 0 0):=by intro g cur e h;simp[Value.ownBlock] at h
theorem kw.same {w w':World} {Pc:Value→Prop} {v:Value} (h:kw w Pc v) (hk:∀g,v.ownBlock=some g→w'.heap[g]? =w.heap[g]?):kw w' Pc v:=
 fun g cur e hg hc=>h g cur e hg ((hk g hg).symm.trans hc)
theorem Vj {P:Program} (w:World) (base:Nat) (t ty e:TypeId) (i:TypeInfo) (z:Value) (size bytes:Nat) (ht:P.underlying t=some (.slice e)) (hi:P.info? e=some i) (hz:i.zero=some z)
  (hsize:i.size=size) (hby:i.bytes=bytes) (hzs:z.cells.size=size) (hsz:0<size)
  (v:Value) (n:Nat) (xs:List Value) (hown:w.ownsRow base e size v n xs)
  (a:Addr) (m c:Nat) (news:List Value) (hl:news.length=m*size) (hnews:∀j u,news[j]? =some u→w.cell? (a.add j)=some u) (h1:∀u∈news,u.oneCell'=true)
  (h63:n+m≤maxLen) (hbytes:(n+m)*bytes≤140737488355328) (hm:0<m)
  (Pc:Value→Prop) (hall:kw w Pc v) (hnw:∀u∈news,Pc u) (hzc:∀u∈z.cells.toList,Pc u) {v':Value} {w':World} (hr:(Builtin.append_ #[t,t] ty #[v,.slice (some a) m c]).run P w = .ok v' w'):kw w' Pc v':=by
 subst hsize;subst hby
 have hsmall:n+m≤9223372036854775807:=by simp only[maxLen] at h63;omega
 have hzz:∀k,∀u∈(Builtin.zeroCells z.cells k).toList,Pc u:=by
  intro k u hu;unfold Builtin.zeroCells at hu;have hmem:u∈(Array.range (k*z.cells.size)).map (fun j=>z.cells[j%z.cells.size]!):=Array.mem_toList_iff.1 hu;obtain⟨j,_,rfl⟩:=Array.mem_map.1 hmem;have hj:j%z.cells.size<z.cells.size:=QaI _ (by omega);rw[getElem!_pos z.cells _ hj];exact hzc _ (Array.mem_toList_iff.2 (Array.getElem_mem hj))
 rcases hown.2 with ⟨rfl,rfl⟩ | ⟨g,cap,cur,rfl,hbg,hg,hnc,hcm,hcs,htake⟩
 ·have hr2:=run_append_nil (P:=P) w t ty e i z ht hi hz a m c news hl hnews (by omega) (by omega) (by have hb:=hbytes;simp only[Qbi] at hb;omega)
  rw[hr2] at hr
  injection hr with hv hw
  subst hv hw;intro g cur e' hgb hc u hu;simp[Value.ownBlock] at hgb;subst hgb;have:=heap_alloc_new w.drew (.cells (news.toArray++Builtin.zeroCells z.cells (grownCap w m 0 e-m)) e);rw[show w.drew.heap.size=w.heap.size from rfl] at this;rw[this] at hc
  injection hc with hc
  injection hc with hc _ _
  subst hc;rw[Array.toList_append,Qby] at hu;rcases hu with hu | hu
  ·exact hnw u hu
  ·exact hzz _ u hu
 ·by_cases hroom:n+m≤cap
  ·have hfit:n*i.size+news.length≤cur.size:=by rw[hl,hcs,←Qaz];exact Qas _ hroom
   have hr2:=run_append_room (P:=P) w t ty e i ht hi g n cap cur hg a m c news hl hnews h1 hroom hfit;rw[hr2] at hr
   injection hr with hv hw
   subst hv hw;intro g' cur' e' hgb hc u hu;simp[Value.ownBlock] at hgb;subst hgb;have:=setRow_heap w g cur (cur.toList.take (n*i.size)++news++cur.toList.drop (n*i.size+news.length)).toArray e (0,0) hg;rw[this] at hc
   injection hc with hc
   injection hc with hc _ _
   subst hc;simp only[Qby] at hu;rcases hu with (hu | hu) | hu
   ·exact hall g cur e rfl hg u (Qbp hu)
   ·exact hnw u hu
   ·exact hall g cur e rfl hg u (Qb5 hu)
  ·have holds:∀j u,xs[j]? =some u→w.cell? ((⟨g,0,none⟩:Addr).add j)=some u:=hown.cells (g:=g) rfl
   have hr2:=run_append_grow (P:=P) w t ty e i z ht hi hz ⟨g,0,none⟩ n cap xs hown.1 holds a m c news hl hnews (by omega) (by omega) (growslice_fits (by omega) hbytes);rw[hr2] at hr
   injection hr with hv hw
   subst hv hw;intro g' cur' e' hgb hc u hu;simp[Value.ownBlock] at hgb;subst hgb;have:=heap_alloc_new w.drew (.cells (xs.toArray++news.toArray++Builtin.zeroCells z.cells (grownCap w (n+m) cap e-(n+m))) e);rw[show w.drew.heap.size=w.heap.size from rfl] at this;rw[this] at hc
   injection hc with hc
   injection hc with hc _ _
   subst hc;rw[Array.toList_append,Array.toList_append,Qby,Qby] at hu;rcases hu with (hu | hu) | hu
   ·rw[←htake] at hu
    exact hall g cur e rfl hg u (Qbp hu)
   ·exact hnw u hu
   ·exact hzz _ u hu
theorem Qa {P:Program} (w:World) {ops:Array Oper} {rest:List Oper} {o:Oper} {a:Act} {Q:Exit→Act→World→Prop} (hgd:o.guard=none) (s x:Operand) (t:TypeId)
  (ho:o.op = .call { callee:= .builtin .append,args:= #[s,x],argTypes:= #[t,t] })
  (base:Nat) (e:TypeId) (i:TypeInfo) (z:Value) (size bytes:Nat) (ht:P.underlying t=some (.slice e)) (hi:P.info? e=some i) (hz:i.zero=some z)
  (hsize:i.size=size) (hby:i.bytes=bytes) (hzs:z.cells.size=size) (hsz:0<size)
  (v:Value) (n:Nat) (xs:List Value) (hs:a.eval s=v) (hown:w.ownsRow base e size v n xs)
  (ad:Addr) (m c:Nat) (news:List Value) (hx:a.eval x = .slice (some ad) m c) (hl:news.length=m*size) (hnews:∀j u,news[j]? =some u→w.cell? (ad.add j)=some u) (h1:∀u∈news,u.oneCell'=true)
  (h63:n+m≤maxLen) (hbytes:(n+m)*bytes≤140737488355328) (hbase:base≤w.heap.size) (hm:0<m)
  (Pc:Value→Prop) (hall:kw w Pc v) (hnw:∀u∈news,Pc u) (hzc:∀u∈z.cells.toList,Pc u)
  (h:∀v' w',w'.ownsRow base e size v' (n+m) (xs++news)→w.grownBy w' v.ownBlock→kw w' Pc v'→wpList P ops Q rest (a.put o.dst v') w'):wpList P ops Q (o::rest) a w:=
 wpList_plain hgd fun K hK=>by
  obtain⟨v',w',hr,h2,h3,_⟩:=run_append_own (P:=P) w base t o.type e i z size bytes ht hi hz hsize hby hzs hsz v n xs hown ad m c news hl hnews h1 h63 hbytes hbase;have h4:=Vj w base t o.type e i z size bytes ht hi hz hsize hby hzs hsz v n xs hown ad m c news hl hnews h1 h63 hbytes hm Pc hall hnw hzc hr;unfold Oper.wp execOp;simp only[ho,resolve,invoke,builtin,Sem.run_bind,Sem.run_pure,Result.andThen_ok,List.map_toArray,List.map_cons,List.map_nil,hs,hx,hr];exact hK _ _ (h v' w' h2 h3 h4)
end Go.Proofs.YteagkgagdelklaaGreatDoor
namespace Go.Proofs.YteagkgagdelklaaGreatDoor
def xg (s:Bool):Int:=if s then -1 else 1
structure Lh (a b h0 h1:Nat) (s:Bool) (hk hn up vp uk vk un vn:Nat) (x y z:Int):Prop where
 ey:y=xg s*((uk:Int)*(a:Int)-(vk:Int)*(b:Int))
 ez:z = -(xg s*((un:Int)*(a:Int)-(vn:Int)*(b:Int)))
 ek:(hk:Int)=xg s*((uk:Int)*(h0:Int)-(vk:Int)*(h1:Int))
 en:(hn:Int) = -(xg s*((un:Int)*(h0:Int)-(vn:Int)*(h1:Int)))
 det:vn*hk+vk*hn=h0
 le1:un≤vn
 le2:uk+un≤vk+vn
 vpos:1≤vn
 hle:hn≤hk
 gcd:Int.gcd y z=Nat.gcd a b
 ex:vp≠0→x = -(xg s*((up:Int)*(a:Int)-(vp:Int)*(b:Int)))∧0≤y∧y<x∧x≤(b:Int)∧Int.gcd x y=Nat.gcd a b
 ub:vk≠0→y≤(b:Int)
 one:vk=0→un=0∧vn=1∧s=false
theorem Lh.start {a b h0 h1:Nat} (h:h1≤h0):Lh a b h0 h1 false h0 h1 0 0 1 0 0 1 0 a b:=by
 refine⟨by simp[xg],by simp[xg],by simp[xg],by simp[xg],by simp,by omega,by omega,by omega,h,rfl,fun h=>absurd rfl h,fun h=>absurd rfl h,fun _=>⟨rfl,rfl,rfl⟩⟩
theorem Ac (x y q:Int):Int.gcd y (x-q*y)=Int.gcd x y:=by
 rw[Int.gcd_comm x y];rw[show x-q*y=x+y*(-q) by rw[Int.mul_neg,Qct y q];omega];exact Int.gcd_add_mul_left_right ..
section
variable {a b h0 h1 ra rb P:Nat} {s:Bool} {hk hn up vp uk vk un vn q:Nat} {x y z:Int}
theorem Lh.sure (h:Lh a b h0 h1 s hk hn up vp uk vk un vn x y z) (ea:a=h0*P+ra) (eb:b=h1*P+rb) (hra:ra<P) (hrb:rb<P) (t1:vn≤hn) (t2:vk+vn≤hk-hn):0≤z∧z<y:=by
 have hP:(0:Int)<P:=by omega
 have hle:=h.hle;have hv:=h.vpos;have ez:=h.ez;have ey:=h.ey;have en:=h.en;have ek:=h.ek;have l1:=h.le1;have l2:=h.le2
 -- the numbers by their highest words
 have e1:z=(hn:Int)*P-xg s*((un:Int)*ra-(vn:Int)*rb):=by
  rw[ez,en,ea,eb];push_cast;grind
 have e2:y-z=((hk:Int)-hn)*P+xg s*(((uk:Int)+un)*ra-((vk:Int)+vn)*rb):=by
  rw[ez,ey,en,ek,ea,eb];push_cast;grind
 have a1:(un:Int)*ra≤(un:Int)*P:=QaX (by omega) (by omega);have a2:(vn:Int)*rb≤(vn:Int)*P:=QaX (by omega) (by omega);have a3:(un:Int)*P≤(vn:Int)*P:=QbP (by omega) (by omega);have a4:(vn:Int)*P≤(hn:Int)*P:=QbP (by omega) (by omega);have n1:0≤(un:Int)*ra:=QbW (by omega) (by omega);have n2:0≤(vn:Int)*rb:=QbW (by omega) (by omega);have b1:((uk:Int)+un)*ra≤((uk:Int)+un)*(P-1):=QaX (by omega) (by omega);have b2:((vk:Int)+vn)*rb≤((vk:Int)+vn)*(P-1):=QaX (by omega) (by omega);have b3:((uk:Int)+un)*(P-1)≤((vk:Int)+vn)*(P-1):=QbP (by omega) (by omega);have b4:((vk:Int)+vn)*P≤((hk:Int)-hn)*P:=QbP (by omega) (by omega);have n3:0≤((uk:Int)+un)*ra:=QbW (by omega) (by omega);have n4:0≤((vk:Int)+vn)*rb:=QbW (by omega) (by omega)
 have b5:((vk:Int)+vn)*(P-1)=((vk:Int)+vn)*P-((vk:Int)+vn):=by rw[Int.mul_sub,Int.mul_one]
 generalize (un:Int)*ra=m1 at *;generalize (vn:Int)*rb=m2 at *;generalize ((uk:Int)+un)*ra=m3 at *;generalize ((vk:Int)+vn)*rb=m4 at *;generalize ((uk:Int)+un)*(P-1)=m5 at *;generalize ((vk:Int)+vn)*(P-1)=m6 at *;generalize ((vk:Int)+vn)*P=m7 at *;generalize ((hk:Int)-hn)*P=m8 at *;generalize (hn:Int)*P=m9 at *;generalize (un:Int)*P=m10 at *;generalize (vn:Int)*P=m11 at *
 cases s with
 | true=>
  have g1:xg true = -1:=rfl;rw[g1] at e1 e2;constructor <;> omega
 | false=>
  have g1:xg false=1:=rfl;rw[g1] at e1 e2;constructor <;> omega
theorem Qr (s:Bool):xg (!s) = -xg s:=by cases s <;> rfl
theorem Lh.step (h:Lh a b h0 h1 s hk hn up vp uk vk un vn x y z) (hz:0≤z∧z<y) (hq:q=hk/hn) (hn0:1≤hn):
  Lh a b h0 h1 (!s) hn (hk%hn) uk vk un vn (uk+q*un) (vk+q*vn) y z (y-q*z):=by
 have hdm:=QaP hk hn;have hml:=QaI hk (show 0<hn by omega);rw[←hq] at hdm
 have hq1:1≤q:=by
  rw[hq];exact(Nat.le_div_iff_mul_le (by omega)).2 (by rw[Qbd];exact h.hle)
 have hr:((hk%hn:Nat):Int)=(hk:Int)-(q:Int)*hn:=by
  have:((hn*q+hk%hn:Nat):Int)=(hk:Int):=by rw[hdm]
  push_cast at this
  rw[Qct (q:Int)];omega
 have k1:un≤q*un:=Qbw _ (by omega);have k2:vn≤q*vn:=Qbw _ (by omega);have l1:=h.le1;have l2:=h.le2
 obtain⟨p,rfl⟩:∃p,q=p+1:=⟨q-1,by omega⟩
 have k3:p*un≤p*vn:=Qan _ l1
 have hs:(p+1)*un=p*un+un:=by rw[Qaz,Qbd]
 have hs2:(p+1)*vn=p*vn+vn:=by rw[Qaz,Qbd]
 have hzb:z≤b:=by
  rcases QaA vk with h0 | h0
  ·obtain⟨o1,o2,o3⟩:=h.one h0
   have:=h.ez;rw[o1,o2,o3] at this;simp[xg] at this;omega
  ·have:=h.ub (by omega);omega
 refine⟨?_,?_,?_,?_,?_,by omega,by omega,by have:=h.vpos;omega,by omega,?_,fun hv=>⟨?_,hz.1,hz.2,h.ub hv,h.gcd⟩,fun _=>hzb,fun hv=> ?_⟩
 ·rw[Qr,h.ez];grind
 ·rw[Qr,h.ez,h.ey];push_cast;grind
 ·rw[Qr,h.en];grind
 ·rw[hr,Qr,h.en,h.ek];push_cast;grind
 ·have hd:=h.det
  have:(vk+(p+1)*vn)*hn+vn*(hk%hn)=vk*hn+vn*(hn*(p+1)+hk%hn):=by
   rw[Qaz,Qau vn]
   have:(p+1)*vn*hn=vn*(hn*(p+1)):=by ac_rfl
   omega
  rw[this,hdm];omega
 ·rw[Ac];exact h.gcd
 ·rw[Qr,h.ey];grind
 ·have:=h.vpos;omega
theorem Lh.small (h:Lh a b h0 h1 s hk hn up vp uk vk un vn x y z) (hn0:1≤hn):vk+vn≤h0∧vk+hk/hn*vn≤h0:=by
 have hd:=h.det;have hle:=h.hle;have hdm:=QaP hk hn;have c1:vn≤vn*hk:=QbI _ (by omega);have c2:vk≤vk*hn:=QbI _ (by omega);refine⟨by omega,?_⟩
 have c3:hk/hn*vn≤vn*hk:=by
  rw[Qam];exact Qan _ (QaW _ _)
 omega
end
