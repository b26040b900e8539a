/- Plain mathematics: a step of elimination. -/
import Derived.Deep.DeepCutAuto
import Derived.Deep.DrawnRows
import Derived.Deep.RegionHeld3
import Derived.Deep.Upon
import Derived.LaidMore
import Derived.LaidSub
import Derived.Laws.CopyOwn
import Derived.Lib.AppendIntMem
import Derived.Lib.AppendZeros
import Derived.Lib.LazyBuf
import Derived.Lib.OwnBridge
import Derived.Lib.ParseIntBCases
import Derived.Lib.Repeat
import Derived.Lib.SmallJoins
import Derived.Lib.Walk
import Derived.LoopNIn
import Derived.OwnWalkIn
import Derived.RangeFuncBound
import Derived.RangeFuncNested
import Derived.SevenTiedAt
import Derived.Shelf.RegionOpen
import Derived.Shelf.Spec.BitsCarry
import Derived.Shelf.Vars
import Derived.Sort.LoopGhostIn
import Derived.StillTailTactics
import Derived.Test.YtneafcdfnhnpnaaGreatDoorCards
import Derived.Test.YtneafcdfnhnpnaaGreatDoorProg
import Derived.Test.YtneafcdfnhnpnaaGreatDoorZSh
import Derived.Test.YtneafcdfnhnpnaaGreatDoorTie
import Derived.WalkLawsBesides
import Derived.WalkSpells
set_option maxRecDepth 100000
set_option maxHeartbeats 2000000
namespace Go.Proofs.YtneafcdfnhnpnaaGreatDoor
section
variable {K:Type} [Lean.Grind.Field K] {m n:Nat} {M A:Nat→Nat→K}
def sw (q row i:Nat):Nat:=if i=q then row else if i=row then q else i
def ZH (A:Nat→Nat→K) (q row col:Nat) (i k:Nat):K:=
 if i=q then A row k*(A row col)⁻¹ else A (sw q row i) k-A (sw q row i) col*(A row k*(A row col)⁻¹)
variable {q fr row col:Nat} {c:Nat→Nat}
end
end Go.Proofs.YtneafcdfnhnpnaaGreatDoor
namespace Go.Proofs.YtneafcdfnhnpnaaGreatDoor
open Go.ChangeShapes Go.WideShapes Go.ChangeAt Go.RowKit Go.Lib
theorem Md {H:Type} {P:Program} {e:TypeId} {d:DataW H} {n:Nat} (hn:n∈d.weights P e):∀ {elems:List (DataW H)},d∈elems→n∈DataW.weightsAll P e elems
 | x::r,h=>by
  simp only[DataW.weightsAll,List.mem_append];rcases List.mem_cons.1 h with rfl | h
  ·exact .inl hn
  ·exact .inr (Md hn h)
end Go.Proofs.YtneafcdfnhnpnaaGreatDoor
namespace Go.Proofs.YtneafcdfnhnpnaaGreatDoor
def sg (neg:Bool) (n:Nat):Int:=if neg then -(n:Int) else n
theorem D3 (neg:Bool) (n d:Nat):(if neg then mkRat (-(n:Int)) d else mkRat n d)=mkRat (sg neg n) d:=by cases neg <;> rfl
theorem Fu (a b:Bool) (n m:Nat):sg a n*sg b m=sg ((a != b)&&decide (0<n*m)) (n*m):=by
 by_cases h:n*m=0
 ·rw[h]
  simp only[Nat.lt_irrefl,decide_false,Bool.and_false];rcases Nat.mul_eq_zero.1 h with rfl | rfl
  ·cases a <;> simp[sg]
  ·cases b <;> simp[sg]
 ·rw[decide_eq_true (Nat.pos_of_ne_zero h),Bool.and_true]
  cases a <;> cases b <;> simp[sg,Int.neg_mul,Int.mul_neg]
theorem Xy (a:Bool) (n k:Nat):sg a (n*k)=sg a n*k:=by cases a <;> simp[sg,Int.neg_mul]
theorem D7 (n d m e:Nat) (hd:d≠0) (he:e≠0) (h1:Nat.gcd n d=1) (h2:Nat.gcd m e=1):
  Nat.gcd ((n/Nat.gcd n e)*(m/Nat.gcd m d)) ((d/Nat.gcd m d)*(e/Nat.gcd n e))=1:=by
 have c1:Nat.Coprime n d:=h1;have c2:Nat.Coprime m e:=h2
 show Nat.Coprime _ _
 rw[Nat.coprime_mul_iff_left,Nat.coprime_mul_iff_right,Nat.coprime_mul_iff_right];refine⟨⟨?_,?_⟩,⟨?_,?_⟩⟩
 ·exact(c1.coprime_div_left (Nat.gcd_dvd_left ..)).coprime_div_right (Nat.gcd_dvd_right ..)
 ·exact Nat.coprime_div_gcd_div_gcd (Nat.gcd_pos_of_pos_right _ (by omega))
 ·exact Nat.coprime_div_gcd_div_gcd (Nat.gcd_pos_of_pos_right _ (by omega))
 ·exact(c2.coprime_div_left (Nat.gcd_dvd_left ..)).coprime_div_right (Nat.gcd_dvd_right ..)
theorem D6 (a b:Bool) (n d m e:Nat) (hd:d≠0) (he:e≠0):
  mkRat (sg a n) d*mkRat (sg b m) e=mkRat (sg ((a != b)&&decide (0<(n/Nat.gcd n e)*(m/Nat.gcd m d))) ((n/Nat.gcd n e)*(m/Nat.gcd m d))) ((d/Nat.gcd m d)*(e/Nat.gcd n e)):=by
 have g1:0<Nat.gcd n e:=Nat.gcd_pos_of_pos_right _ (by omega);have g2:0<Nat.gcd m d:=Nat.gcd_pos_of_pos_right _ (by omega);rw[←Fu,Rat.mkRat_mul_mkRat];have e1:n=(n/Nat.gcd n e)*Nat.gcd n e:=(Nat.div_mul_cancel (Nat.gcd_dvd_left n e)).symm;have e2:e=(e/Nat.gcd n e)*Nat.gcd n e:=(Nat.div_mul_cancel (Nat.gcd_dvd_right n e)).symm;have e3:m=(m/Nat.gcd m d)*Nat.gcd m d:=(Nat.div_mul_cancel (Nat.gcd_dvd_left m d)).symm;have e4:d=(d/Nat.gcd m d)*Nat.gcd m d:=(Nat.div_mul_cancel (Nat.gcd_dvd_right m d)).symm;generalize Nat.gcd n e=p at *;generalize Nat.gcd m d=q at *;generalize n/p=n' at *;generalize e/p=e' at *;generalize m/q=m' at *;generalize d/q=d' at *;subst e1 e2 e3 e4;rw[Xy,Xy]
 have r1:sg a n'*(p:Int)*(sg b m'*(q:Int))=sg a n'*sg b m'*((p*q:Nat):Int):=by
  rw[Int.natCast_mul];simp only[Int.mul_assoc,Int.mul_left_comm]
 have r2:d'*q*(e'*p)=d'*e'*(p*q):=by
  simp only[Nat.mul_left_comm,Nat.mul_comm]
 rw[r1,r2];exact Rat.mkRat_mul_right (Nat.mul_ne_zero (by omega) (by omega))
end Go.Proofs.YtneafcdfnhnpnaaGreatDoor
namespace Go.Proofs.YtneafcdfnhnpnaaGreatDoor
open Go
section
variable {P:Program} {ops:Array Oper} {Q:Exit→Act→World→Prop} {md:Region.Mode} {S:World→Prop}
def Z8 (ops:Array Oper) (listed:Array Bool):Prop:=∃k,k<ops.size∧listed.getD k true=false
def yY (P:Program) (md:Region.Mode) (ops:Array Oper) (Q:Exit→Act→World→Prop) (S:World→Prop):Nat→Array Bool→Act→World→Prop
 | 0,listed,a,w=>Region.ready md ops listed=[]∧Q .normal a w
 | fuel+1,listed,a,w=>
  (Region.ready md ops listed=[]→Q .normal a w) ∧
  ∀i∈Region.ready md ops listed,wpOp P ops Q i (fun a' w'=>(Z8 ops (listed.setIfInBounds i true)→S w')∧yY P md ops Q S fuel (listed.setIfInBounds i true) a' w') a w
theorem Un:∀(fuel:Nat) (listed:Array Bool) (a:Act) (w:World),yY P md ops Q S fuel listed a w→wpAny P md ops Q fuel listed a w
 | 0,_,_,_,h=>h
 | fuel+1,_,_,_,h=>⟨h.1,fun i hi=>wpOp_mono (fun a' w' h'=>Un fuel _ a' w' h'.2) (h.2 i hi)⟩
def X9 (md:Region.Mode) (ops:Array Oper) (listed:Array Bool) (i:Nat):Bool:=
 (List.range ops.size).any fun k=>(listed.getD k true==false)&&k != i&&Region.waitsFor md ops k i
theorem EM {i:Nat} {oi:Oper} {v:Value} (hi:ops[i]? =some oi) (hsel:∀(j:Nat) (o:Oper) cs b,ops[j]? =some o→o.op ≠ .select cs b)
  (hQ:∀c a w,Q (.panic c) (a.put oi.dst v) w→Q (.panic c) a w):
  ∀(fuel:Nat) (listed:Array Bool) (a:Act) (w:World),
   (∀j oj,ops[j]? =some oj→j≠i→listed.getD j true=false→(∀e∈oj.after,Region.binds md e=true→e.on≠i)→oi.apart ops oj=true) →
   i∈Region.ready md ops listed→X9 md ops listed i=true→YieldsIf P ops S oi v a→S w →
   yY P md ops Q S fuel (listed.setIfInBounds i true) (a.put oi.dst v) w→yY P md ops Q S (fuel+1) listed a w:=by
 intro fuel
 induction fuel with
 | zero=>
  intro listed a w _ hr _ hy hS H;refine⟨fun h=>(by rw[h] at hr;cases hr),fun j hj=> ?_⟩;by_cases hji:j=i
  ·subst hji;exact hy.wpOp hi hS ⟨fun _=>hS,H⟩
  ·have:=ready_mono hj hji
   rw[H.1] at this;cases this
 | succ fuel ih=>
  intro listed a w hfree hr haw hy hS H;refine⟨fun h=>(by rw[h] at hr;cases hr),fun j hj=> ?_⟩;by_cases hji:j=i
  ·subst hji;exact hy.wpOp hi hS ⟨fun _=>hS,H⟩
  ·have h1:=H.2 j (ready_mono hj hji)
   obtain⟨hjun,oj,hoj,hall⟩:=mem_ready.1 hj;have hiun:=(mem_ready.1 hr).1
   have hno1:∀e:Edge,listed.getD e.on false=true→e.on≠i:=fun e h1 heq=>by
    rw[heq] at h1;rcases Nat.lt_or_ge i listed.size with h' | h'
    ·simp[h'] at hiun h1;rw[hiun] at h1;cases h1
    ·simp[Array.getElem?_eq_none h'] at h1
   have hnot:∀e∈oj.after,Region.binds md e=true→e.on≠i:=fun e he hb=>hno1 e (hall e he hb)
   obtain⟨k,hk,hkk⟩:=List.any_eq_true.1 haw;simp only[Bool.and_eq_true,beq_iff_eq,bne_iff_ne] at hkk;obtain⟨⟨hku,hki⟩,hkw⟩:=hkk;obtain⟨ok,hok,e,he,hb,hon⟩:=Region.waitsFor_spec hkw
   have hkj:j≠k:=fun heq=>by
    subst heq;have:ok=oj:=Option.some.inj (hok.symm.trans hoj);subst this;exact hnot e he hb hon
   have hkun:(listed.setIfInBounds j true).getD k true=false:=by rw[getD_set_ne true hkj];exact hku
   have hmore:Z8 ops ((listed.setIfInBounds i true).setIfInBounds j true):=⟨k,List.mem_range.1 hk,by
    rw[getD_set_ne true hkj,getD_set_ne true (Ne.symm hki)];exact hku⟩
   have haw':X9 md ops (listed.setIfInBounds j true) i=true:=by
    refine List.any_eq_true.2 ⟨k,hk,?_⟩;simp only[Bool.and_eq_true,beq_iff_eq,bne_iff_ne];exact⟨⟨hkun,hki⟩,hkw⟩
   have h2:=wpOp_putIf hoj (hfree j oj hoj hji hjun hnot) (fun cs b=>hsel i oi cs b hi) (fun cs b=>hsel j oj cs b hoj) hQ hy h1
   have hfree':∀k ok,ops[k]? =some ok→k≠i→(listed.setIfInBounds j true).getD k true=false →
     (∀e∈ok.after,Region.binds md e=true→e.on≠i)→oi.apart ops ok=true:=fun k ok hk hki hun hno=>by
    refine hfree k ok hk hki ?_ hno;by_cases hjk:j=k
    ·subst hjk;exact hjun
    ·rw[getD_set_ne true hjk] at hun;exact hun
   refine wpOp_mono (fun a' w' h3=>⟨fun _=>h3.2.1 hmore,ih (listed.setIfInBounds j true) a' w' hfree' (ready_mono hr (Ne.symm hji)) haw' h3.1 (h3.2.1 hmore) ?_⟩) h2;rw[Array.setIfInBounds_comm _ _ hji];exact h3.2.2
theorem qw {i:Nat} {oi:Oper} {v:Value} {fuel:Nat} {listed:Array Bool} {a:Act} {w:World} (hi:ops[i]? =some oi)
  (hs:Region.noSelect ops=true) (hf:Region.free md ops listed i=true) (hr:(Region.ready md ops listed).contains i=true) (haw:X9 md ops listed i=true)
  (hQ:∀c a w,Q (.panic c) (a.put oi.dst v) w→Q (.panic c) a w) (hy:YieldsIf P ops S oi v a) (hS:S w)
  (h:yY P md ops Q S fuel (listed.setIfInBounds i true) (a.put oi.dst v) w):yY P md ops Q S (fuel+1) listed a w:=
 EM hi (Region.noSelect_spec hs) hQ fuel listed a w (Region.free_spec hi hf) (by simpa using hr) haw hy hS h
theorem Uo {i:Nat} {o:Oper} {fuel:Nat} {listed:Array Bool} {a:Act} {w:World} (hr:Region.ready md ops listed=[i]) (ho:ops[i]? =some o)
  (h:∀K':Act→World→Prop,Shut (∀a w,S w→(S w→yY P md ops Q S fuel (listed.setIfInBounds i true) a w)→K' a w)→if Region.wanted o (yielded ops a.tmps)=true then Oper.wp P o a w K' Q else K' (a.put o.dst undef) w):
  yY P md ops Q S (fuel+1) listed a w:=by
 refine⟨fun h0=>(by rw[h0] at hr;cases hr),fun j hj=> ?_⟩;rw[hr] at hj
 obtain rfl:j=i:=by simpa using hj
 exact wpOp_step ho (fun K' hK=>h K' (fun a w hS hW=>hK a w ⟨fun _=>hS,hW hS⟩))
theorem EN {i:Nat} {o:Oper} {fuel:Nat} {listed:Array Bool} {a:Act} {w:World} (hr:Region.ready md ops listed=[i]) (ho:ops[i]? =some o)
  (hall:(List.range ops.size).all (fun k=>(listed.setIfInBounds i true).getD k true)=true) (hr2:Region.ready md ops (listed.setIfInBounds i true)=[])
  (h:∀K':Act→World→Prop,Shut (∀a w,Q .normal a w→K' a w)→if Region.wanted o (yielded ops a.tmps)=true then Oper.wp P o a w K' Q else K' (a.put o.dst undef) w):
  yY P md ops Q S (fuel+1) listed a w:=by
 refine⟨fun h0=>(by rw[h0] at hr;cases hr),fun j hj=> ?_⟩;rw[hr] at hj
 obtain rfl:j=i:=by simpa using hj
 refine wpOp_step ho (fun K' hK=>h K' (fun a w hW=>hK a w ⟨fun hm=> ?_,?_⟩))
 ·obtain⟨k,h1,h2⟩:=hm
  have:=List.all_eq_true.1 hall k (List.mem_range.2 h1);rw[h2] at this;cases this
 ·cases fuel with
  | zero=>exact⟨hr2,hW⟩
  | succ f=>exact⟨fun _=>hW,fun k hk=>by rw[hr2] at hk;cases hk⟩
theorem CX {id:Nat} {a:Act} {w:World} (hm:P.follows .mixedOrders=true) (hS:S w.drew)
  (h:S w.drew→yY P .any ops Q S ops.size (Array.replicate ops.size false) a w.drew):(Code.region id ops true).wp P Q a w:=
 wp_region_any hm (Un _ _ _ _ (h hS))
end
end Go.Proofs.YtneafcdfnhnpnaaGreatDoor
namespace Go.Proofs.YtneafcdfnhnpnaaGreatDoor
abbrev WB:Nat:=18446744073709551616
def jc:List Nat→Nat
 | []=>0
 | x::r=>x+WB*jc r
def jJ (ws:List Nat):Prop:=∀x∈ws,x<WB
def jE (ws:List Nat):List Nat:=(ws.reverse.dropWhile (· ==0)).reverse
def kn (ws:List Nat):Prop:=jE ws=ws
theorem zJ (l:List Nat):jE (l++[0])=jE l:=by simp[jE]
theorem zI (l:List Nat) (x:Nat) (h:x≠0):jE (l++[x])=l++[x]:=by simp[jE,h]
theorem yN (ws:List Nat) (k:Nat) (hk:k<ws.length):ws.take (k+1)=ws.take k++[ws[k]?.getD 0]:=by
 rw[List.take_add_one,List.getElem?_eq_getElem hk];rfl
theorem JF {P:List Nat→Prop} (h0:P []) (h1:∀l x,P l→P (l++[x])) (l:List Nat):P l:=by
 rw[←List.reverse_reverse l]
 induction l.reverse with
 | nil=>exact h0
 | cons x r ih=>rw[List.reverse_cons];exact h1 _ _ ih
theorem XR (a b:List Nat):jc (a++b)=jc a+WB^a.length*jc b:=by
 induction a with
 | nil=>simp[jc]
 | cons x r ih=>
  simp only[List.cons_append,jc,ih,List.length_cons,Nat.pow_succ];rw[Nat.mul_add,←Nat.mul_assoc,Nat.mul_comm WB (_^_),Nat.add_assoc]
theorem Jf (l:List Nat) (x:Nat):jc (l++[x])=jc l+WB^l.length*x:=by rw[XR];simp[jc]
theorem LR (ws:List Nat):jc (jE ws)=jc ws:=by
 refine JF (P:=fun ws=>jc (jE ws)=jc ws) rfl (fun l x ih=> ?_) ws;by_cases h:x=0
 ·subst h;rw[zJ,ih,XR];simp[jc]
 ·rw[zI l x h]
theorem XQ (ws:List Nat):kn (jE ws):=by
 refine JF (P:=fun ws=>kn (jE ws)) rfl (fun l x ih=> ?_) ws;by_cases h:x=0
 ·subst h;rw[zJ];exact ih
 ·unfold kn;rw[zI l x h,zI l x h]
theorem LD:jJ []:=by unfold jJ;simp
theorem Mo {x:Nat} :jJ [x]↔x<WB:=by unfold jJ;simp
theorem ym {ws:List Nat} (h:jJ ws) (k:Nat):jJ (ws.take k):=fun x hx=>h x (List.mem_of_mem_take hx)
theorem j5 {ws:List Nat} (h:jJ ws) (k:Nat):ws[k]?.getD 0<WB:=by
 rcases Nat.lt_or_ge k ws.length with hk | hk
 ·rw[List.getElem?_eq_getElem hk];exact h _ (List.getElem_mem hk)
 ·rw[List.getElem?_eq_none hk];simp
theorem LO {ws:List Nat} (h:jJ ws):jJ (jE ws):=by
 intro x hx;apply h;unfold jE at hx;rw[List.mem_reverse] at hx;exact List.mem_reverse.1 ((List.dropWhile_sublist _).mem hx)
theorem JL (ws:List Nat):(jE ws).length≤ws.length:=by
 unfold jE;rw[List.length_reverse];have:=(List.dropWhile_sublist (fun x=>x==0) (l:=ws.reverse)).length_le;simpa using this
theorem qT {ws:List Nat} (h:jJ ws):jc ws<WB^ws.length:=by
 induction ws with
 | nil=>simp[jc]
 | cons x r ih=>
  have hx:=h x (by simp);have hr:=ih (fun y hy=>h y (by simp[hy]));simp only[jc,List.length_cons,Nat.pow_succ];have:WB*(jc r+1)≤WB*WB^r.length:=Nat.mul_le_mul_left _ hr;rw[Nat.mul_comm (_^_) WB];rw[Nat.mul_add,Nat.mul_one] at this;omega
theorem JK {ws:List Nat} (h:kn ws) (hne:ws≠[]):WB^(ws.length-1)≤jc ws:=by
 revert h hne;refine JF (P:=fun ws=>kn ws→ws≠[]→WB^(ws.length-1)≤jc ws) (fun _ h=>absurd rfl h) (fun l x _ h _=> ?_) ws;by_cases hx:x=0
 ·subst hx
  unfold kn at h;rw[zJ] at h;have:=JL l;rw[h] at this;simp at this;omega
 ·rw[Jf]
  have:WB^l.length*1≤WB^l.length*x:=Nat.mul_le_mul_left _ (by omega)
  simp;omega
theorem LC {ws:List Nat} (h:kn ws):jc ws=0↔ws=[]:=by
 constructor
 ·intro h0
  rcases List.eq_nil_or_concat ws with rfl | ⟨l,x,rfl⟩
  ·rfl
  ·have:=JK h (by simp)
   have hp:0<WB^((l.concat x).length-1):=Nat.pow_pos (by decide);omega
 ·rintro rfl;rfl
theorem Kr {ws:List Nat} (h:kn ws) {n:Nat} (hv:jc ws<WB^n):ws.length≤n:=by
 rcases Nat.lt_or_ge n ws.length with hl | hl
 ·have hne:ws≠[]:=by intro e;subst e;simp at hl
  have:=JK h hne;have h2:WB^n≤WB^(ws.length-1):=Nat.pow_le_pow_right (by decide) (by omega);omega
 ·exact hl
theorem Ku {a b:List Nat} (ha:jJ a) (hb:kn b) (h:a.length<b.length):jc a<jc b:=by
 have h1:=qT ha;have h2:=JK hb (by intro e;subst e;simp at h);have h3:WB^a.length≤WB^(b.length-1):=Nat.pow_le_pow_right (by decide) (by omega);omega
theorem XS (ws:List Nat) (k:Nat) (hk:k<ws.length):jc ws=jc (ws.take k)+WB^k*(ws[k]?.getD 0+WB*jc (ws.drop (k+1))):=by
 have h:ws=ws.take k++(ws[k]?.getD 0::ws.drop (k+1)):=by
  rw[List.getElem?_eq_getElem hk]
  simp
 conv=>lhs;rw[h]
 rw[XR];simp only[jc,List.length_take];rw[Nat.min_eq_left (by omega)]
theorem My {a b:List Nat} (ha:jJ a) (hl:a.length=b.length) (k:Nat) (hk:k<a.length) (hd:a.drop (k+1)=b.drop (k+1)) (hlt:a[k]?.getD 0<b[k]?.getD 0):jc a<jc b:=by
 rw[XS a k hk,XS b k (by omega),hd];have h1:=qT (ym ha k);rw[List.length_take,Nat.min_eq_left (by omega)] at h1;generalize jc (b.drop (k+1))=D at *;generalize a[k]?.getD 0=x at *;generalize b[k]?.getD 0=y at *
 have h2:WB^k*(x+WB*D)+WB^k*1≤WB^k*(y+WB*D):=by rw[←Nat.mul_add];exact Nat.mul_le_mul_left _ (by omega)
 omega
end Go.Proofs.YtneafcdfnhnpnaaGreatDoor
namespace Go.Proofs.YtneafcdfnhnpnaaGreatDoor
open Go.RowKit Go.Lib
def kM (p:List Int):Nat→List Bool→Nat→List Int×List Bool
 | 0,s,_=>([],s)
 | f+1,s,i=>if s[i]?.getD true=true then ([],s) else ((i:Int)::(kM p f (s.set i true) (p[i]?.getD 0).toNat).1,(kM p f (s.set i true) (p[i]?.getD 0).toNat).2)
def jW (p:List Int):Nat→List (List Int)×List Bool
 | 0=>([],List.replicate p.length false)
 | k+1=>if (jW p k).2[k]?.getD true=true then jW p k else ((jW p k).1++[(kM p p.length (jW p k).2 k).1],(kM p p.length (jW p k).2 k).2)
def qI (p:List Int):List (List Int):=(jW p p.length).1
def JJ (s:List Bool):Nat:=s.countP (· ==false)
theorem Lm (s:List Bool):JJ s≤s.length:=List.countP_le_length
theorem ZP:∀(s:List Bool) (i:Nat),s[i]? =some false→JJ (s.set i true)+1=JJ s
 | [],i,h=>by simp at h
 | x::s,0,h=>by simp at h;subst h;simp[JJ]
 | x::s,i+1,h=>by
  have:=ZP s i (by simpa using h);unfold JJ at *;rw[List.set_cons_succ,List.countP_cons,List.countP_cons];omega
theorem Vp (p:List Int):∀(f:Nat) (s:List Bool) (i:Nat),(kM p f s i).2.length=s.length
 | 0,s,i=>rfl
 | f+1,s,i=>by
  rw[kM];split
  ·rfl
  ·simp[Vp p f]
theorem Nu (p:List Int) (f:Nat) (s:List Bool) (i:Nat) (h:s[i]?.getD true=true):kM p f s i=([],s):=by
 cases f with
 | zero=>rfl
 | succ f=>rw[kM,if_pos h]
theorem QR (p:List Int):∀k,(jW p k).2.length=p.length
 | 0=>by simp[jW]
 | k+1=>by
  rw[jW];split
  ·exact QR p k
  ·rw[Vp];exact QR p k
theorem UL (p:List Int) (k:Nat):∀m,∃t,(jW p (k+m)).1=(jW p k).1++t
 | 0=>⟨[],by simp⟩
 | m+1=>by
  obtain⟨t,ht⟩:=UL p k m;rw[←Nat.add_assoc,jW];split
  ·exact⟨t,ht⟩
  ·exact⟨t++[(kM p p.length (jW p (k+m)).2 (k+m)).1],by rw[ht];simp⟩
theorem Sr (p:List Int) {k:Nat} (hk:k<p.length) (h:(jW p k).2[k]?.getD true=false):
  ∃post,qI p=(jW p k).1++(kM p p.length (jW p k).2 k).1::post:=by
 obtain⟨t,ht⟩:=UL p (k+1) (p.length-(k+1));rw[show k+1+(p.length-(k+1))=p.length by omega] at ht;unfold qI;rw[ht,jW,if_neg (by rw[h];decide)];exact⟨t,by simp⟩
def Xj (ops:Array Oper):Bool:=ops.all fun o=>match o.op with | .defer _=>false | _=>true
theorem Ak {ops:Array Oper} (h:Xj ops=true) {i:Nat} {o:Oper} (ho:ops[i]? =some o):∀c,o.op ≠ .defer c:=by
 intro c hc;have hm:o∈ops:=Array.mem_of_getElem? ho;have:=Array.all_eq_true'.1 h o hm;rw[hc] at this;cases this
section
variable {F:Fence} {n l:Nat} {P:Program} {ops:Array Oper} {Q:Exit→Act→World→Prop} {md:Region.Mode}
theorem LK {i:Nat} {K K':Act→World→Prop} {a:Act} {w:World} (hd:Xj ops=true) (hK:∀a w,K a w→K' a w)
  (hh:wpOpIn F n P ops Q i K a w):wpOpIn (F.inRound l) n P ops Q i K' a w:=by
 have hh:=wpOpIn_mono hK hh;unfold wpOpIn at *;split
 ·rename_i hn;simpa [hn] using hh
 ·rename_i o ho
  simp only[ho] at hh;split
  ·rename_i hw
   simp only[hw,if_true] at hh;unfold Oper.wpIn at *;rw[Oper.semAt_eq _ _ _ (Ak hd ho)] at hh ⊢;exact hh
  ·rename_i hw;simpa [hw] using hh
theorem Mq (hd:Xj ops=true):∀(fuel:Nat) (listed:Array Bool) (a:Act) (w:World),wpAnyIn F n P md ops Q fuel listed a w→wpAnyIn (F.inRound l) n P md ops Q fuel listed a w
 | 0,_,_,_,h=>h
 | fuel+1,_,_,_,h=>⟨h.1,fun i hi=>LK hd (fun a w hh=>Mq hd fuel _ a w hh) (h.2 i hi)⟩
theorem LH {id:Nat} {a:Act} {w:World} (hm:P.follows .mixedOrders=true) (hd:Xj ops=true)
  (h:wpAnyIn F n P .any ops Q ops.size (Array.replicate ops.size false) a w.drew):(Code.region id ops true).wpIn (F.inRound l) n P Q a w:=
 wpIn_region_any hm (Mq hd _ _ _ _ h)
end
end Go.Proofs.YtneafcdfnhnpnaaGreatDoor
namespace Go.Proofs.YtneafcdfnhnpnaaGreatDoor
open Go.RowKit
def xg (r:Int):Bool:=decide ((97≤r∧r≤122)∨(65≤r∧r≤90))
theorem Jv (r:Int) (w:World):Calls Tryz.prog 122 #[.int .i32 r] w fun e w'=>e = .returned (.bool (xg r))∧w=w':=by
 by_cases h1:97≤r
 ·by_cases h2:r≤122
  ·have Hd:=Lib.hid (show xg r=true by simp[xg];omega)
   go_enter Tryz.func122,Tryz.ntmps122
   go_wp2
   go_ret;exact⟨by rw[Hd.out];rfl,rfl⟩
  ·have Hd:=Lib.hid (show xg r=false by simp[xg];omega)
   have h3:65≤r:=by omega
   have h4:¬r≤90:=by omega
   go_enter Tryz.func122,Tryz.ntmps122
   go_wp2
   go_ret;exact⟨by rw[Hd.out];rfl,rfl⟩
 ·by_cases h3:65≤r
  ·by_cases h4:r≤90
   ·have Hd:=Lib.hid (show xg r=true by simp[xg];omega)
    go_enter Tryz.func122,Tryz.ntmps122
    go_wp2
    go_ret;exact⟨by rw[Hd.out];rfl,rfl⟩
   ·have Hd:=Lib.hid (show xg r=false by simp[xg];omega)
    go_enter Tryz.func122,Tryz.ntmps122
    go_wp2
    go_ret;exact⟨by rw[Hd.out];rfl,rfl⟩
  ·have Hd:=Lib.hid (show xg r=false by simp[xg];omega)
   go_enter Tryz.func122,Tryz.ntmps122
   go_wp2
   go_ret;exact⟨by rw[Hd.out];rfl,rfl⟩
end Go.Proofs.YtneafcdfnhnpnaaGreatDoor
namespace Go.Proofs.YtneafcdfnhnpnaaGreatDoor
structure Fd (T:Type) where
 z:T
 isZ:T→Bool
 sub:T→T→T
 mul:T→T→T
 div:T→T→T
abbrev jV (T:Type):=Nat×Nat×List T
section
variable {T:Type} (F:Fd T)
def jG (R:List (jV T)) (i:Nat):List T:=(R[i]?.map (·.2.2)).getD []
def jI (R:List (jV T)) (i j:Nat):T:=(jG R i)[j]?.getD F.z
def setRow (R:List (jV T)) (i:Nat) (L:List T):List (jV T):=R.modify i fun r=>(r.1,r.2.1,L)
def j9 {α:Type} (R:List α) (i j:Nat):List α:=
 match R[i]?,R[j]? with
 | some a,some b=>(R.set i b).set j a
 | _,_=>R
def kf (d:T) (o:Nat) (L:List T):List T:=L.mapIdx fun j x=>if o≤j then (if F.isZ x=true then x else F.div x d) else x
def kX (o:Nat) (L P:List T):List T:=
 if F.isZ (L[o]?.getD F.z)=true then L else L.mapIdx fun j y=>if o≤j then (if F.isZ (P[j]?.getD F.z)=true then y else F.sub y (F.mul (L[o]?.getD F.z) (P[j]?.getD F.z))) else y
def ke (top o:Nat) (P:List T) (R:List (jV T)) (k:Nat):List (jV T):=R.mapIdx fun i r=>if i<k∧i≠top then (r.1,r.2.1,kX F o r.2.2 P) else r
def yF (R:List (jV T)) (j:Nat):Nat→Nat→Option Nat
 | 0,_=>none
 | k+1,i=>if F.isZ (jI F R i j)=true then yF R j k (i+1) else some i
def kP (R:List (jV T)) (top:Nat):Nat→Nat→Option (Nat×Nat)
 | 0,_=>none
 | k+1,j=>match yF F R j (R.length-top) top with
  | some i=>some (i,j)
  | none=>kP R top k (j+1)
structure jz (T:Type) where
 rows:List (jV T)
 cols:List Nat
 piv:List T
 odd:Bool
def jX (row:Nat) (S:jz T):List (jV T):=if row=S.cols.length then S.rows else j9 S.rows row S.cols.length
def elPiv (row col:Nat) (S:jz T):T:=jI F (jX row S) S.cols.length col
def elDiv (row col:Nat) (S:jz T):List (jV T):=setRow (jX row S) S.cols.length (kf F (elPiv F row col S) col (jG (jX row S) S.cols.length))
def jU (row col:Nat) (S:jz T):jz T:=
 ⟨ke F S.cols.length col (jG (elDiv F row col S) S.cols.length) (elDiv F row col S) (elDiv F row col S).length,S.cols++[col],S.piv++[elPiv F row col S],if row=S.cols.length then S.odd else !S.odd⟩
def jH (n:Nat):Nat→Nat→jz T→jz T
 | 0,_,S=>S
 | k+1,from_,S=>match kP F S.rows S.cols.length (n-from_) from_ with
  | none=>S
  | some (row,col)=>jH n k (col+1) (jU F row col S)
end
section
variable {T:Type} {F:Fd T} {R:List (jV T)}
theorem Nl {j i:Nat} (k s:Nat) (h1:s≤i) (h2:i<s+k) (h3:F.isZ (jI F R i j)=false) (h4:∀t,s≤t→t<i→F.isZ (jI F R t j)=true):yF F R j k s=some i:=by
 induction k generalizing s with
 | zero=>omega
 | succ k ih=>
  unfold yF;by_cases hs:s=i
  ·subst hs;rw[if_neg (by rw[h3];simp)]
  ·rw[if_pos (h4 s (Nat.le_refl _) (by omega))]
   exact ih (s+1) (by omega) (by omega) (fun t a b=>h4 t (by omega) b)
theorem YJ {j:Nat} (k s:Nat) (h4:∀t,s≤t→t<s+k→F.isZ (jI F R t j)=true):yF F R j k s=none:=by
 induction k generalizing s with
 | zero=>rfl
 | succ k ih=>
  unfold yF;rw[if_pos (h4 s (Nat.le_refl _) (by omega))];exact ih (s+1) (fun t a b=>h4 t (by omega) (by omega))
theorem Zj {top i j:Nat} (k s:Nat) (h1:s≤j) (h2:j<s+k) (ht:top≤i) (hi:i<R.length) (h3:F.isZ (jI F R i j)=false) (h4:∀t,top≤t→t<i→F.isZ (jI F R t j)=true)
  (h5:∀c,s≤c→c<j → ∀t,top≤t→t<R.length→F.isZ (jI F R t c)=true):kP F R top k s=some (i,j):=by
 induction k generalizing s with
 | zero=>omega
 | succ k ih=>
  unfold kP;by_cases hs:s=j
  ·subst hs;rw[Nl _ _ ht (by omega) h3 h4]
  ·rw[YJ _ _ (fun t a b=>h5 s (Nat.le_refl _) (by omega) t a (by omega))]
   exact ih (s+1) (by omega) (by omega) (fun c a b=>h5 c (by omega) b)
theorem Ws {top:Nat} (k s:Nat) (h5:∀c,s≤c→c<s+k → ∀t,top≤t→t<R.length→F.isZ (jI F R t c)=true):kP F R top k s=none:=by
 induction k generalizing s with
 | zero=>rfl
 | succ k ih=>
  unfold kP;rw[YJ _ _ (fun t a b=>h5 s (Nat.le_refl _) (by omega) t a (by omega))];exact ih (s+1) (fun c a b=>h5 c (by omega) (by omega))
theorem Ko {α:Type} {R:List α} {i j:Nat} {a b:α} (hi:R[i]? =some a) (hj:R[j]? =some b):j9 R i j=(R.set i b).set j a:=by
 unfold j9;rw[hi,hj]
theorem Kk {α:Type} (R:List α) (i j:Nat):(j9 R i j).length=R.length:=by
 unfold j9;split <;> simp
theorem Kl {α:Type} {R:List α} {i j:Nat} {x:α} (h:x∈j9 R i j):x∈R:=by
 unfold j9 at h;split at h
 ·rename_i a b ha hb
  rcases List.mem_or_eq_of_mem_set h with h | rfl
  ·rcases List.mem_or_eq_of_mem_set h with h | rfl
   ·exact h
   ·exact List.mem_of_getElem? hb
  ·exact List.mem_of_getElem? ha
 ·exact h
theorem Km {α:Type} (R:List α) (i j:Nat):List.Perm (j9 R i j) R:=by
 unfold j9;split
 ·rename_i a b ha hb
  obtain⟨hi,rfl⟩:=List.getElem?_eq_some_iff.1 ha;obtain⟨hj,rfl⟩:=List.getElem?_eq_some_iff.1 hb;exact List.set_set_perm hi hj
 ·exact List.Perm.refl _
theorem Qm {α:Type} {R:List α} {i j:Nat} {a b:α} (hi:R[i]? =some a) (hj:R[j]? =some b):(j9 R i j)[j]? =some a:=by
 rw[Ko hi hj,List.getElem?_set_self (by rw[List.length_set];exact(List.getElem?_eq_some_iff.1 hj).1)]
theorem JE (i:Nat) (L:List T):(setRow R i L).length=R.length:=by simp[setRow]
theorem qA {i:Nat} {r:jV T} (h:R[i]? =some r) (L:List T):(setRow R i L)[i]? =some (r.1,r.2.1,L):=by simp[setRow,h]
theorem xA {i k:Nat} (h:i≠k) (L:List T):(setRow R i L)[k]? =R[k]? :=by simp[setRow,h]
theorem JD (i:Nat) (L:List T):(setRow R i L).map (·.1)=R.map (·.1):=by
 apply List.ext_getElem?;intro k;simp only[setRow,List.getElem?_map,List.getElem?_modify]
 cases R[k]? with
 | none=>rfl
 | some r=>by_cases h:i=k <;> simp[h]
theorem Zz (i:Nat) (L:List T) {β:Type} (f:Nat→Nat→β):(setRow R i L).map (fun r=>f r.1 r.2.1)=R.map (fun r=>f r.1 r.2.1):=by
 apply List.ext_getElem?;intro k;simp only[setRow,List.getElem?_map,List.getElem?_modify]
 cases R[k]? with
 | none=>rfl
 | some r=>by_cases h:i=k <;> simp[h]
theorem Fm {i:Nat} {L:List T} {x:jV T} (h:x∈setRow R i L):(x∈R)∨(∃r∈R,R[i]? =some r∧x=(r.1,r.2.1,L)):=by
 obtain⟨k,hk⟩:=List.mem_iff_getElem?.1 h;by_cases h:i=k
 ·subst h
  cases hr:R[i]? with
  | none=>simp[setRow,hr] at hk
  | some r=>rw[qA hr] at hk;exact .inr ⟨r,List.mem_of_getElem? hr,rfl,(Option.some.inj hk).symm⟩
 ·rw[xA h] at hk;exact .inl (List.mem_of_getElem? hk)
theorem GK {i:Nat} {r:jV T} (h:R[i]? =some r):setRow R i r.2.2=R:=by
 apply List.ext_getElem?;intro k;by_cases hk:i=k
 ·subst hk;rw[qA h,h]
 ·rw[xA hk]
theorem kW {i:Nat} {r:jV T} (h:R[i]? =some r):jG R i=r.2.2:=by unfold jG;rw[h];rfl
variable {top o:Nat} {P:List T}
theorem R6 (k:Nat):(ke F top o P R k).length=R.length:=by simp[ke]
theorem Yj:ke F top o P R 0=R:=by
 apply List.ext_getElem?;intro k;simp only[ke,List.getElem?_mapIdx,Nat.not_lt_zero,false_and,if_false];cases R[k]? <;> rfl
theorem QQ (k:Nat):(ke F top o P R k)[k]? =R[k]? :=by
 simp only[ke,List.getElem?_mapIdx,Nat.lt_irrefl,false_and,if_false];cases R[k]? <;> rfl
theorem Yi (k:Nat):(ke F top o P R k)[top]? =R[top]? :=by
 simp only[ke,List.getElem?_mapIdx,ne_eq,not_true,and_false,if_false];cases R[top]? <;> rfl
theorem Yg:ke F top o P R (top+1)=ke F top o P R top:=by
 apply List.ext_getElem?;intro k;simp only[ke,List.getElem?_mapIdx]
 cases R[k]? with
 | none=>rfl
 | some r=>
  simp only[Option.map_some,Option.some.injEq];by_cases h:k<top
  ·rw[if_pos ⟨by omega,by omega⟩,if_pos ⟨h,by omega⟩]
  ·rw[if_neg (by omega),if_neg (by omega)]
theorem Yh {k:Nat} (hk:k≠top) {r:jV T} (hr:R[k]? =some r):setRow (ke F top o P R k) k (kX F o r.2.2 P)=ke F top o P R (k+1):=by
 apply List.ext_getElem?;intro j;by_cases hj:k=j
 ·subst hj
  rw[qA (QQ k ▸ hr)];simp only[ke,List.getElem?_mapIdx,hr,Option.map_some,Option.some.injEq];rw[if_pos ⟨by omega,hk⟩]
 ·rw[xA hj]
  simp only[ke,List.getElem?_mapIdx]
  cases R[j]? with
  | none=>rfl
  | some q=>
   simp only[Option.map_some,Option.some.injEq];by_cases h:j<k∧j≠top
   ·rw[if_pos h,if_pos ⟨by omega,h.2⟩]
   ·rw[if_neg h,if_neg (by omega)]
theorem Jq (d:T) (o:Nat) (L:List T):(kf F d o L).length=L.length:=by simp[kf]
theorem QP (o:Nat) (L P:List T):(kX F o L P).length=L.length:=by unfold kX;split <;> simp
end
def kj {T:Type} (f:List T→List T) (R:List (jV T)) (k:Nat):List (jV T):=R.mapIdx fun i r=>if i<k then (r.1,r.2.1,f r.2.2) else r
section
variable {T:Type} {f:List T→List T} {R:List (jV T)}
theorem KZ (k:Nat):(kj f R k).length=R.length:=by simp[kj]
theorem Xi:kj f R 0=R:=by
 apply List.ext_getElem?;intro k;simp only[kj,List.getElem?_mapIdx,Nat.not_lt_zero,if_false];cases R[k]? <;> rfl
theorem Xh (k:Nat):(kj f R k)[k]? =R[k]? :=by
 simp only[kj,List.getElem?_mapIdx,Nat.lt_irrefl,if_false];cases R[k]? <;> rfl
theorem Y1 {k:Nat} {r:jV T} (hr:R[k]? =some r):setRow (kj f R k) k (f r.2.2)=kj f R (k+1):=by
 apply List.ext_getElem?;intro j;by_cases hj:k=j
 ·subst hj
  rw[qA (Xh k ▸ hr)];simp only[kj,List.getElem?_mapIdx,hr,Option.map_some,Option.some.injEq];rw[if_pos (by omega)]
 ·rw[xA hj]
  simp only[kj,List.getElem?_mapIdx]
  cases R[j]? with
  | none=>rfl
  | some q=>
   simp only[Option.map_some,Option.some.injEq];by_cases h:j<k
   ·rw[if_pos h,if_pos (by omega)]
   ·rw[if_neg h,if_neg (by omega)]
theorem Y0:kj f R R.length=R.map fun r=>(r.1,r.2.1,f r.2.2):=by
 apply List.ext_getElem?;intro j;simp only[kj,List.getElem?_mapIdx,List.getElem?_map];rcases Nat.lt_or_ge j R.length with h | h
 ·rw[List.getElem?_eq_getElem h];simp[h]
 ·rw[List.getElem?_eq_none h];rfl
theorem VW (k:Nat):(kj f R k).map (·.1)=R.map (·.1):=by
 apply List.ext_getElem?;intro j;simp only[kj,List.getElem?_map,List.getElem?_mapIdx]
 cases R[j]? with
 | none=>rfl
 | some r=>by_cases h:j<k <;> simp[h]
def nsSet (F:Fd T) (zero:T) (S:jz T) (col k:Nat) (L:List T):List T:=(List.range k).foldl (fun l i=>l.set (S.cols[i]?.getD 0) (F.sub zero (jI F S.rows i col))) L
def zC (F:Fd T) (zero one:T) (n:Nat) (S:jz T) (col:Nat):List T:=(nsSet F zero S col S.cols.length ((List.replicate n zero).set col one)).reverse
def nsBasis (F:Fd T) (zero one:T) (n:Nat) (S:jz T):Nat→List (List T)
 | 0=>[]
 | k+1=>nsBasis F zero one n S k++(if S.cols.contains (n-1-k)=true then [] else [zC F zero one n S (n-1-k)])
theorem zZ (F:Fd T) (zero:T) (S:jz T) (col k:Nat) (L:List T):(nsSet F zero S col k L).length=L.length:=by
 induction k with
 | zero=>rfl
 | succ k ih=>unfold nsSet at *;rw[List.range_succ,List.foldl_append];simp[ih]
theorem K4 (F:Fd T) (zero:T) (S:jz T) (col k:Nat) (L:List T):nsSet F zero S col (k+1) L=(nsSet F zero S col k L).set (S.cols[k]?.getD 0) (F.sub zero (jI F S.rows k col)):=by
 unfold nsSet;rw[List.range_succ,List.foldl_append];rfl
end
section
variable {T:Type} {F:Fd T} {R:List (jV T)}
theorem Nk {j i:Nat} (k s:Nat) (h:yF F R j k s=some i):s≤i∧i<s+k∧F.isZ (jI F R i j)=false:=by
 induction k generalizing s with
 | zero=>cases h
 | succ k ih=>
  unfold yF at h;split at h
  ·have:=ih (s+1) h;exact⟨by omega,by omega,this.2.2⟩
  ·rename_i hz
   obtain rfl:=Option.some.inj h;exact⟨Nat.le_refl _,by omega,by simpa using hz⟩
theorem Zi {top i j:Nat} (k s:Nat) (h:kP F R top k s=some (i,j)):s≤j∧j<s+k∧top≤i∧i<R.length∧F.isZ (jI F R i j)=false:=by
 induction k generalizing s with
 | zero=>cases h
 | succ k ih=>
  unfold kP at h;split at h
  ·rename_i x hx
   simp only[Option.some.injEq,Prod.mk.injEq] at h;obtain⟨rfl,rfl⟩:=h;have:=Nk _ _ hx;exact⟨Nat.le_refl _,by omega,this.1,by omega,this.2.2⟩
  ·have:=ih (s+1) h;exact⟨by omega,by omega,this.2.2⟩
theorem YC {n:Nat} (k fr:Nat) (S:jz T) (hfr:fr≤n) (h:∀c∈S.cols,c<fr):∀c∈(jH F n k fr S).cols,c<n:=by
 induction k generalizing fr S with
 | zero=>exact fun c hc=>Nat.lt_of_lt_of_le (h c hc) hfr
 | succ k ih=>
  unfold jH;split
  ·exact fun c hc=>Nat.lt_of_lt_of_le (h c hc) hfr
  ·rename_i row col hp
   have hb:=Zi _ _ hp;refine ih (col+1) _ (by omega) ?_;intro c hc;simp only[jU,List.mem_append,List.mem_singleton] at hc;rcases hc with hc | rfl
   ·have:=h c hc;omega
   ·omega
end
end Go.Proofs.YtneafcdfnhnpnaaGreatDoor
namespace Go.Proofs.YtneafcdfnhnpnaaGreatDoor
open Go.RowKit Go.Lib
theorem VD (up vp uk vk:Nat) (s:Bool) (w:World):
  Calls Tryz.prog 222 #[.agg #[.int .u64 up,.int .u64 vp,.int .u64 uk,.int .u64 vk,.bool s]] w fun e w'=>e = .returned (.bool (decide (vp=0)))∧Below w.heap.size w w':=by
 by_cases h:vp=0
 ·subst h
  go_enter Tryz.func222,Tryz.ntmps222
  go_wp2
  go_ret;exact⟨rfl,(Below.refl _ _).alloc (Nat.le_refl _) _⟩
 ·have hb:((vp:Int)==0)=false:=by simpa using h
  have hd:=hid (decide_eq_false h);clear h;go_enter Tryz.func222,Tryz.ntmps222
  go_wp2
  go_ret;exact⟨by rw[hd.out];rfl,(Below.refl _ _).alloc (Nat.le_refl _) _⟩
end Go.Proofs.YtneafcdfnhnpnaaGreatDoor
namespace Go.Proofs.YtneafcdfnhnpnaaGreatDoor
open Go.Lib
def j3 (l:List UInt8):Prop:=∀c∈l,48≤c.toNat∧c.toNat≤57
def yE:List UInt8→Nat→Nat
 | [],v=>v
 | c::r,v=>yE r (10*v+(c.toNat-48))
def jf (l:List UInt8):Nat:=yE l 0
theorem y4 (v:Nat):yE [] v=v:=rfl
theorem zu (c:UInt8) (r:List UInt8) (v:Nat):yE (c::r) v=yE r (10*v+(c.toNat-48)):=rfl
theorem St (v:Nat) (a b:List UInt8):yE (a++b) v=yE b (yE a v):=by
 induction a generalizing v with
 | nil=>rfl
 | cons c r ih=>exact ih _
theorem V5 (v p d:Nat):(10*v+d)*p=v*(p*10)+d*p:=by
 rw[Nat.add_mul,Nat.mul_comm 10 v,Nat.mul_assoc,Nat.mul_comm 10 p]
theorem Su (v:Nat) (l:List UInt8):yE l v=v*10^l.length+yE l 0:=by
 induction l generalizing v with
 | nil=>rw[y4,y4,List.length_nil,Nat.pow_zero,Nat.mul_one,Nat.add_zero]
 | cons c r ih=>
  rw[zu,zu,ih,ih (10*0+(c.toNat-48)),List.length_cons,Nat.pow_succ,V5,V5,Nat.zero_mul,Nat.zero_add,Nat.add_assoc]
theorem Jo (a b:List UInt8):jf (a++b)=jf a*10^b.length+jf b:=by
 unfold jf;rw[St,Su]
theorem Jl {l:List UInt8} (h:j3 l) (k:Nat):j3 (l.take k):=fun c hc=>h c (List.mem_of_mem_take hc)
theorem X8 {l:List UInt8} (h:j3 l) (k:Nat):j3 (l.drop k):=fun c hc=>h c (List.mem_of_mem_drop hc)
theorem qP {l:List UInt8} (h:j3 l):jf l<10^l.length:=by
 induction l with
 | nil=>rw[jf,y4,List.length_nil,Nat.pow_zero];exact Nat.zero_lt_one
 | cons c r ih=>
  have h1:=ih (fun x hx=>h x (by simp[hx]));have h2:=h c (by simp)
  have e:jf (c::r)=(c.toNat-48)*10^r.length+jf r:=by
   have:=Jo [c] r;rw[show jf [c]=c.toNat-48 from by rw[jf,zu,y4];omega] at this;exact this
  rw[e,List.length_cons,Nat.pow_succ];have:(c.toNat-48)*10^r.length≤9*10^r.length:=Nat.mul_le_mul_right _ (by omega);omega
theorem Be (M acc:Nat) (l:List UInt8) (h:j3 l) (hM:9999999999999999999≤M) (hb:(acc+1)*10^l.length≤10000000000000000000):parseUintM M acc l = .ok (yE l acc):=by
 induction l generalizing acc with
 | nil=>rfl
 | cons c r ih=>
  have h2:=h c (by simp);have hp:1≤10^r.length:=Nat.one_le_pow _ _ (by decide);rw[List.length_cons,Nat.pow_succ] at hb
  have hs:(acc*10+(c.toNat-48)+1)*10^r.length≤10000000000000000000:=by
   refine Nat.le_trans (Nat.mul_le_mul_right _ (show acc*10+(c.toNat-48)+1≤(acc+1)*10 from by omega)) ?_;rw[Nat.mul_assoc,Nat.mul_comm 10];exact hb
  have ha:acc*10+(c.toNat-48)+1≤10000000000000000000:=Nat.le_trans (Nat.le_mul_of_pos_right _ hp) hs;unfold parseUintM;rw[if_pos h2,if_neg (by omega),if_neg (by omega),ih _ (fun x hx=>h x (by simp[hx])) hs];rw[zu,Nat.mul_comm 10 acc]
theorem Bd (l:List UInt8) (h:j3 l) (h0:l≠[]) (hl:l.length≤19):parseUintB 64 l = .ok (jf l):=by
 unfold parseUintB;rw[if_neg h0];refine Be _ 0 l h (by decide) ?_;have:10^l.length≤10^19:=Nat.pow_le_pow_right (by decide) hl;omega
end Go.Proofs.YtneafcdfnhnpnaaGreatDoor
namespace Go.Proofs.YtneafcdfnhnpnaaGreatDoor
open Go.RowKit
theorem yJ {k k2:IntKind} {a b c d:Int} (h:a=b) (h2:c=d):Ending.returned (.tuple #[.int k a,.int k2 c]) = .returned (.tuple #[.int k b,.int k2 d]):=by rw[h,h2]
theorem Jc {k:IntKind} {a b:Int} (h:a=b):Ending.returned (.int k a) = .returned (.int k b):=by rw[h]
theorem BP {P:Program} {f:FuncId} {args:Array Value} {w:World} {n:Nat} {v:Value}
  (h:Calls P f args (w.drewN n) fun e w'=>e = .returned v∧w.drewN n=w'):Calls P f args (w.drewN n) fun e w''=>e = .returned v ∧ ∃m,w''=w.drewN m:=
 h.mono fun _ _ ⟨he,hm⟩=>⟨he,n,hm.symm⟩
def Sl (w:World) (z:Nat) (v:Value) (xs:List Value):Prop:=
 ∃A n c,v = .slice A n c∧n≤c∧c≤140737488355328∧xs.length=n*z ∧
  (0<n → ∃b off,A=some ⟨b,off,none⟩∧b<w.heap.size ∧ ∀j u,xs[j]? =some u→w.cell? ⟨b,off+j,none⟩=some u)
section
variable {w w':World} {z:Nat} {v:Value} {xs:List Value}
theorem Sl.keep (h:Sl w z v xs) (hs:w.heap.size≤w'.heap.size) (hk:∀b o,b<w.heap.size→w'.cell? ⟨b,o,none⟩=w.cell? ⟨b,o,none⟩):Sl w' z v xs:=by
 obtain⟨A,n,c,hv,h1,h2,h3,h4⟩:=h;refine⟨A,n,c,hv,h1,h2,h3,fun hn=> ?_⟩;obtain⟨b,off,hA,hb,hc⟩:=h4 hn;exact⟨b,off,hA,by omega,fun j u hu=>by rw[hk _ _ hb];exact hc j u hu⟩
theorem Sl.below (h:Sl w z v xs) (hb:Below w.heap.size w w'):Sl w' z v xs:=
 h.keep hb.size fun b o hlt=>hb.cell (p:=⟨b,o,none⟩) hlt
theorem Sl.alloc (h:Sl w z v xs) (o:Obj):Sl (w.alloc o) z v xs:=h.below ((Below.refl _ _).alloc (Nat.le_refl _) o)
theorem Sl.nil:Sl w z (.slice none 0 0) []:=⟨none,0,0,rfl,by omega,by omega,by simp,fun h=>by omega⟩
theorem Sl.new (w:World) (t:TypeId) (cs:Array Value) (hs:cs.size≤140737488355328):Sl (w.alloc (.cells cs t)) 1 (.slice (some ⟨w.heap.size,0,none⟩) cs.size cs.size) cs.toList:=by
 refine⟨_,_,_,rfl,by omega,hs,by simp,fun _=>⟨w.heap.size,0,rfl,by simp,fun j u hu=> ?_⟩⟩;rw[World.cell?_alloc_at _ _ _ _ rfl,Nat.zero_add];simpa using hu
theorem Sl.lit (w:World) (t:TypeId) (cs:Array Value) (n:Nat) (hn:cs.size=n) (hs:n≤140737488355328):Sl (w.alloc (.cells cs t)) 1 (.slice (some ⟨w.heap.size,0,none⟩) n n) cs.toList:=by
 subst hn;exact Sl.new w t cs hs
theorem Sl.form (h:Sl w 1 v xs):∃A c,v = .slice A xs.length c∧xs.length≤c∧c≤140737488355328:=by
 obtain⟨A,n,c,hv,h1,h2,h3,h4⟩:=h
 have:n=xs.length:=by omega
 subst this;exact⟨A,c,hv,h1,h2⟩
theorem Sl.at_ {A:Option Addr} {n c:Nat} (h:Sl w 1 (.slice A n c) xs) {k:Nat} (hk:k<xs.length):
  ∃b off,A=some ⟨b,off,none⟩∧b<w.heap.size ∧ ∀j,j<xs.length→w.cell? ⟨b,off+j,none⟩=xs[j]? :=by
 obtain⟨A',n',c',hv,h1,h2,h3,h4⟩:=h
 obtain⟨rfl,rfl,rfl⟩:A=A'∧n=n'∧c=c':=by simpa using hv
 obtain⟨b,off,hA,hb,hc⟩:=h4 (by omega);exact⟨b,off,hA,hb,fun j hj=>by rw[List.getElem?_eq_getElem hj];exact hc j _ (List.getElem?_eq_getElem hj)⟩
theorem Sl.take {A:Option Addr} {n c k:Nat} (h:Sl w 1 (.slice A n c) xs) (hk:k≤n):Sl w 1 (.slice A k c) (xs.take k):=by
 obtain⟨A',n',c',hv,h1,h2,h3,h4⟩:=h
 obtain⟨rfl,rfl,rfl⟩:A=A'∧n=n'∧c=c':=by simpa using hv
 refine⟨A,k,c,rfl,by omega,h2,by simp;omega,fun hn=> ?_⟩;obtain⟨b,off,hA,hb,hc⟩:=h4 (by omega);refine⟨b,off,hA,hb,fun j u hu=>hc j u ?_⟩;rw[List.getElem?_take] at hu;split at hu
 ·exact hu
 ·cases hu
end
def jv (ws:List Nat):List Value:=ws.map fun (x:Nat)=>Value.int .u64 (x:Int)
end Go.Proofs.YtneafcdfnhnpnaaGreatDoor
namespace Go.Proofs.YtneafcdfnhnpnaaGreatDoor
open Go.Lib
def qK:Nat→Nat→List UInt8
 | 0,_=>[]
 | k+1,r=>qK k (r/10)++[UInt8.ofNat (48+r%10)]
theorem Ba (k r:Nat):(qK k r).length=k:=by
 induction k generalizing r with
 | zero=>rfl
 | succ k ih=>simp[qK,ih]
theorem Jn {u:Nat} (h:10≤u):decDigits u=decDigits (u/10)++[UInt8.ofNat (48+u%10)]:=by rw[decDigits,dif_neg (by omega)]
theorem UO (k q r:Nat) (hq:1≤q) (hr:r<10^k):decDigits (q*10^k+r)=decDigits q++qK k r:=by
 induction k generalizing r with
 | zero=>
  have:r=0:=by simpa using hr
  subst this;simp[qK]
 | succ k ih=>
  have h10:1≤10^k:=Nat.one_le_pow _ _ (by decide)
  have h1:q*10^(k+1)=q*10^k*10:=by rw[Nat.pow_succ,Nat.mul_assoc]
  have h2:1≤q*10^k:=Nat.mul_pos hq h10;rw[h1,Jn (by omega)];rw[Nat.pow_succ] at hr;rw[show (q*10^k*10+r)/10=q*10^k+r/10 from by omega,show (q*10^k*10+r)%10=r%10 from by omega,ih (r/10) (by omega)];simp[qK]
theorem Bb (k:Nat):qK k 0=List.replicate k 48:=by
 induction k with
 | zero=>rfl
 | succ k ih=>rw[qK,show 0/10=0 from rfl,ih,List.replicate_succ'];rfl
theorem Jx (k r:Nat) (hr:r<10^(k+1)):nDigits r≤k+1:=by
 induction k generalizing r with
 | zero=>rw[nDigits_small (by simpa using hr)];omega
 | succ k ih=>
  by_cases h:r<10
  ·rw[nDigits_small h];omega
  ·rw[nDigits_big h]
   have:=ih (r/10) (by rw[Nat.pow_succ] at hr;omega);omega
theorem AZ (k r:Nat) (hr:r<10^(k+1)):qK (k+1) r=List.replicate (k+1-nDigits r) 48++decDigits r:=by
 induction k generalizing r with
 | zero=>
  have h:r<10:=by simpa using hr
  rw[nDigits_small h,decDigits_one h];simp[qK,Nat.mod_eq_of_lt h]
 | succ k ih=>
  by_cases h:r<10
  ·rw[nDigits_small h,decDigits_one h,qK,show r/10=0 from by omega,Bb,Nat.mod_eq_of_lt h]
   congr 1
  ·rw[qK,ih (r/10) (by rw[Nat.pow_succ] at hr;omega),Jn (by omega:10≤r),nDigits_big h,←List.append_assoc]
   congr 3
   omega
theorem CZ (b:UInt8) (c:Nat):repeatL [b] c=List.replicate c b:=by
 induction c with
 | zero=>rfl
 | succ c ih=>rw[repeatL,ih,List.replicate_succ];rfl
theorem UN (x:Nat) (h:10000000000000000000≤x):
  decDigits x=decDigits (x/10000000000000000000)++(List.replicate (19-nDigits (x%10000000000000000000)) 48++decDigits (x%10000000000000000000))∧1≤x/10000000000000000000∧nDigits (x%10000000000000000000)≤19:=by
 have h1:x=x/10000000000000000000*10^19+x%10000000000000000000:=by
  have:=Nat.div_add_mod x 10000000000000000000;omega
 have h2:x%10000000000000000000<10^19:=Nat.mod_lt _ (by decide);refine⟨?_,by omega,Jx 18 _ h2⟩
 conv=>lhs;rw[h1]
 rw[UO 19 _ _ (by omega) h2,AZ 18 _ h2]
theorem Aa (x n:Nat) (h:x<WB^n):nDigits x≤20*n+1:=by
 apply Jx;have h1:WB^n≤(10^20)^n:=Nat.pow_le_pow_left (by decide) n;rw[←Nat.pow_mul] at h1;have h2:10^(20*n)≤10^(20*n+1):=Nat.pow_le_pow_right (by decide) (by omega);omega
end Go.Proofs.YtneafcdfnhnpnaaGreatDoor
namespace Go.Proofs.YtneafcdfnhnpnaaGreatDoor
open Go.RowKit Go.Sort Go.Lib
def jN (w:World):Prop:=TabBelow Tryz.prog w.heap.size w "internal/strconv.uint64pow10" .u64 pow10Tab ∧ ∃m,2<w.heap.size∧w.cell? ⟨2,0,none⟩=some (.int .i64 m)
theorem jN.below {w w':World} (h:jN w) (hb:Below w.heap.size w w'):jN w':=by
 obtain⟨h1,m,h2,h3⟩:=h;exact⟨fun w2 hw2=>h1 w2 (hb.trans (hw2.mono hb.size)),m,Nat.lt_of_lt_of_le h2 hb.size,(hb.cell (p:=⟨2,0,none⟩) h2).trans h3⟩
theorem Nv (u:Nat) (w:World) (hu:u<WB) (hG:jN w):
  Calls Tryz.prog 250 #[.int .u64 u,.int .i64 10] w fun e w'=>e = .returned (.string ⟨(decDigits u).toArray⟩)∧Below w.heap.size w w':=by
 unfold WB at hu;by_cases hs:u<100
 ·go_enter Tryz.func250,Tryz.ntmps250
  go_wp2_with (go_at_call 276;refine(Tryz.internal_strconv_small u hs _).mono ?_;rintro e w' ⟨rfl,rfl⟩)
  go_ret;exact⟨rfl,Below.refl _ _⟩
 ·have hu1:1≤u:=by omega
  have hnd20:nDigits u≤20:=by have:=numDigits_eq u hu1 hu;split at this <;> omega
  have hal:Tryz.prog.arrayLen 305=24:=by kernel_rfl
  have hsl1:∀W,(Instr.sliceAt 305 (.pointer (some ⟨w.heap.size,0,none⟩)) none (some (.int .i64 ((nDigits u:Nat):Int))) none).run Tryz.prog W = .ok (.slice (some ⟨w.heap.size,0,none⟩) (nDigits u) 24) W:=fun W=>by
   rw[run_sliceAt_array_h W 305 ⟨w.heap.size,0,none⟩ (by kernel_rfl) .i64 ((nDigits u:Nat):Int) (by omega) (by rw[hal];omega)]
   go_simp
  have hH0:=holds_zero0 w 305 (nDigits u) (by omega);have hfmt:=Tryz.internal_strconv_formatBase10 w.heap.size 0 24 u (Array.replicate (nDigits u) 0) (w.alloc (.cells zeros24 305)) hH0 (by rw[Array.size_replicate];exact lt_pow_nDigits u) hu (by rw[Array.size_replicate];omega);rw[Array.size_replicate] at hfmt;have HH0:=hid hH0;have HF:=hid hfmt;clear hH0 hal hfmt;go_enter Tryz.func250,Tryz.ntmps250
  go_wp2_with (go_at_call 277;refine(Tryz.internal_strconv_numDigits u hu1 hu _ (hG.1 _ ((Below.refl _ _).alloc (Nat.le_refl _) _))).mono ?_;rintro e w' ⟨rfl,rfl⟩)
  refine HF.out.mono ?_;rintro e w' ⟨rfl,k,v',dk,rfl,hF⟩
  have hcv:(convert 285 9 (.slice (some ⟨w.heap.size,0,none⟩) (nDigits u) 24)).run Tryz.prog ((putRow (fun (b:UInt8)=>Value.int .u8 (b.toNat:Int)) (w.alloc (.cells zeros24 305)) w.heap.size 0 dk).drewN k) = .ok (.string ⟨(decDigits u).toArray⟩) ((putRow (fun (b:UInt8)=>Value.int .u8 (b.toNat:Int)) (w.alloc (.cells zeros24 305)) w.heap.size 0 dk).drewN k):=by
   have h:=run_convert_bytes_back (P:=Tryz.prog) ((putRow (fun (b:UInt8)=>Value.int .u8 (b.toNat:Int)) (w.alloc (.cells zeros24 305)) w.heap.size 0 dk).drewN k) 285 9 5 ⟨w.heap.size,0,none⟩ 24 (decDigits u) Tryz.underlying285 Tryz.underlying5 Tryz.underlying9 (fun j hj=>by
    rw[row_is_numeral hF j hj,add_plain,World.cell?_drewN]
    exact cell?_putRow (fun (b:UInt8)=>Value.int .u8 (b.toNat:Int)) _ w.heap.size 0 _ dk HH0.out (by rw[hF.size,Array.size_replicate]) j (by rw[hF.size];rw[decDigits_length] at hj;exact hj))
   rw[decDigits_length] at h;exact h
  go_wp2
  go_ret;refine⟨rfl,?_⟩;exact below_drewN (below_putRow (q:=0) ((Below.refl _ w).alloc (Nat.le_refl _) _) (Nat.le_refl _)) k
theorem Vr (u:Nat) (w:World) (hu:u<WB) (hG:jN w):
  Calls Tryz.prog 232 #[.int .u64 u,.int .i64 10] w fun e w'=>e = .returned (.string ⟨(decDigits u).toArray⟩)∧Below w.heap.size w w':=by
 go_enter Tryz.func232,Tryz.ntmps232
 go_wp2_with (go_at_call 250;refine(Nv u _ hu hG).mono ?_;rintro e w' ⟨rfl,hB⟩)
 go_ret;exact⟨rfl,hB⟩
