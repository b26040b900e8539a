/- Plain mathematics: elimination asks for the numbers alone, not for where the rows lie. -/
import Derived.Test.YtneafcdfnhnpnaaGreatDoorZK12
import Derived.Deep.DrawnRows
set_option maxRecDepth 100000
set_option maxHeartbeats 8000000
namespace Go.Proofs.YtneafcdfnhnpnaaGreatDoor
section
variable {T:Type} {F:Fd T}
def jv (R:List (jZ T)):List (List T):=R.map (·.2.2)
theorem zg (R:List (jZ T)) (i:Nat):xJ R i=(jv R)[i]?.getD []:=by
 unfold xJ jv;rw[List.getElem?_map]
theorem yk (R:List (jZ T)):(jv R).length=R.length:=by simp[jv]
theorem Xm {R Q:List (jZ T)} (h:jv R=jv Q) (i j:Nat):kB F R i j=kB F Q i j:=by unfold kB;rw[zg,zg,h]
theorem VF {R Q:List (jZ T)} (h:jv R=jv Q):R.length=Q.length:=by rw[←yk R,←yk Q,h]
theorem Tm {R Q:List (jZ T)} (h:jv R=jv Q) (j k i:Nat):yG F R j k i=yG F Q j k i:=by
 induction k generalizing i with
 | zero=>rfl
 | succ k ih=>unfold yG;rw[Xm h,ih]
theorem Wr {R Q:List (jZ T)} (h:jv R=jv Q) (top k j:Nat):qN F R top k j=qN F Q top k j:=by
 induction k generalizing j with
 | zero=>rfl
 | succ k ih=>unfold qN;rw[Tm h,VF h,ih]
theorem Fw {R Q:List (jZ T)} (h:jv R=jv Q) (i j:Nat):jv (qu R i j)=jv (qu Q i j):=by
 have e:∀R:List (jZ T),jv (qu R i j)=qu (jv R) i j:=fun R=>by
  unfold qu jv;rw[List.getElem?_map,List.getElem?_map];cases R[i]? <;> cases R[j]? <;> simp[List.map_set]
 rw[e,e,h]
theorem Fv {R Q:List (jZ T)} (h:jv R=jv Q) (i:Nat) (L:List T):jv (setRow R i L)=jv (setRow Q i L):=by
 have e:∀R:List (jZ T),jv (setRow R i L)=(jv R).modify i (fun _=>L):=fun R=>by
  unfold setRow jv;apply List.ext_getElem?;intro k;simp only[List.getElem?_map,List.getElem?_modify]
  cases R[k]? with
  | none=>rfl
  | some r=>simp only[Option.map_some];split <;> rfl
 rw[e,e,h]
theorem Fu {R Q:List (jZ T)} (h:jv R=jv Q) (top o:Nat) (P:List T) (k:Nat):jv (kz F top o P R k)=jv (kz F top o P Q k):=by
 have e:∀R:List (jZ T),jv (kz F top o P R k)=(jv R).mapIdx fun i L=>if i<k∧i≠top then yD F o L P else L:=fun R=>by
  unfold kz jv;apply List.ext_getElem?;intro j;simp only[List.getElem?_map,List.getElem?_mapIdx]
  cases R[j]? with
  | none=>rfl
  | some r=>simp only[Option.map_some];split <;> rfl
 rw[e,e,h]
structure kt (S Z:jP T):Prop where
 rows:jv S.rows=jv Z.rows
 cols:S.cols=Z.cols
 piv:S.piv=Z.piv
 odd:S.odd=Z.odd
variable {S Z:jP T}
theorem kt.swap (h:kt S Z) (row:Nat):jv (qp row S)=jv (qp row Z):=by
 unfold qp;rw[h.cols];split
 ·exact h.rows
 ·exact Fw h.rows _ _
theorem kt.elPiv (h:kt S Z) (row col:Nat):elPiv F row col S=elPiv F row col Z:=by unfold Proofs.YtneafcdfnhnpnaaGreatDoor.elPiv;rw[Xm (h.swap row),h.cols]
theorem kt.elDiv (h:kt S Z) (row col:Nat):jv (elDiv F row col S)=jv (elDiv F row col Z):=by
 unfold Proofs.YtneafcdfnhnpnaaGreatDoor.elDiv;rw[h.elPiv,h.cols,zg,zg,h.swap row];exact Fv (h.swap row) _ _
theorem kt.step (h:kt S Z) (row col:Nat):kt (kW F row col S) (kW F row col Z):=by
 have hd:=h.elDiv (F:=F) row col;unfold kW;refine⟨?_,?_,?_,?_⟩
 ·dsimp only
  rw[h.cols,zg,zg,hd,VF hd];exact Fu hd _ _ _ _
 ·dsimp only;rw[h.cols]
 ·dsimp only;rw[h.piv,h.elPiv]
 ·dsimp only;rw[h.cols,h.odd]
theorem kt.go (n:Nat):∀(k fr:Nat) {S Z:jP T},kt S Z→kt (j3 F n k fr S) (j3 F n k fr Z)
 | 0,_,_,_,h=>h
 | k+1,fr,S,Z,h=>by
  unfold j3;rw[Wr h.rows,h.cols];split
  ·exact h
  ·exact kt.go n k _ (h.step _ _)
theorem kt.nsSet (h:kt S Z) (zero:T) (col k:Nat) (L:List T):nsSet F zero S col k L=nsSet F zero Z col k L:=by
 induction k with
 | zero=>rfl
 | succ k ih=>rw[K5,K5,ih,h.cols,Xm h.rows]
theorem kt.nsBasis (h:kt S Z) (zero one:T) (n k:Nat):nsBasis F zero one n S k=nsBasis F zero one n Z k:=by
 induction k with
 | zero=>rfl
 | succ k ih=>
  unfold Proofs.YtneafcdfnhnpnaaGreatDoor.nsBasis zE;rw[ih,h.cols,h.nsSet]
def JX (M:List (List T)):List (jZ T):=M.map fun L=>(0,0,L)
theorem E7 (M:List (List T)):jv (JX M)=M:=by unfold jv JX;rw[List.map_map];simp[Function.comp_def]
theorem Gq {R:List (jZ T)} {M:List (List T)} (h:jv R=M):kt (⟨R,[],[],false⟩:jP T) ⟨JX M,[],[],false⟩:=⟨by rw[E7];exact h,rfl,rfl,rfl⟩
def kY (F:Fd T) (n:Nat) (M:List (List T)):jP T:=j3 F n M.length 0 ⟨JX M,[],[],false⟩
theorem Q5 {R:List (jZ T)} {M:List (List T)} (h:jv R=M) (n:Nat):kt (j3 F n R.length 0 ⟨R,[],[],false⟩) (kY F n M):=by
 unfold kY
 have hl:R.length=M.length:=by rw[←h,yk]
 rw[hl];exact kt.go n _ _ (Gq h)
theorem VT (f:List T→List T) (R:List (jZ T)):jv (ke f R R.length)=(jv R).map f:=by
 rw[Y7];unfold jv;rw[List.map_map,List.map_map];rfl
end
section
variable {S Z:jP Rat}
theorem kt.stepOk (h:kt S Z) (row col:Nat) (hz:zR row col Z):zR row col S:=by
 obtain⟨h1,h2⟩:=hz;have hd:=h.elDiv (F:=jm) row col;refine⟨fun x hx=>h1 x ?_,fun i r hr hi=> ?_⟩
 ·rw[zg,←h.cols,←h.swap row,←zg];exact hx
 ·have hv:(jv (Proofs.YtneafcdfnhnpnaaGreatDoor.elDiv jm row col Z))[i]? =some r.2.2:=by rw[←hd];unfold jv;rw[List.getElem?_map,hr];rfl
  unfold jv at hv;rw[List.getElem?_map] at hv
  cases hz:(Proofs.YtneafcdfnhnpnaaGreatDoor.elDiv jm row col Z)[i]? with
  | none=>rw[hz] at hv;cases hv
  | some q=>
   rw[hz] at hv;have e:q.2.2=r.2.2:=Option.some.inj hv;have:=h2 i q hz (by rw[←h.cols];exact hi);rw[zg,←hd,←zg,←h.cols,e] at this;exact this
theorem kt.elOk (n:Nat):∀(k fr:Nat) {S Z:jP Rat},kt S Z→qT n k fr Z→qT n k fr S
 | 0,_,_,_,_,_=>trivial
 | k+1,fr,S,Z,h,hz=>by
  unfold qT at hz ⊢;rw[Wr h.rows,h.cols];split
  ·trivial
  ·rename_i row col hp
   rw[hp] at hz;exact⟨h.stepOk _ _ hz.1,kt.elOk n k _ (h.step _ _) hz.2⟩
def zq (n:Nat) (M:List (List Rat)):Prop:=qT n M.length 0 ⟨JX M,[],[],false⟩
theorem zq.rows {n:Nat} {M:List (List Rat)} (h:zq n M) {R:List jI} (hR:jv R=M):qT n R.length 0 ⟨R,[],[],false⟩:=by
 have hl:R.length=M.length:=by rw[←hR,yk]
 rw[hl];exact kt.elOk n _ _ (Gq hR) h
end
end Go.Proofs.YtneafcdfnhnpnaaGreatDoor
namespace Go.Proofs.YtneafcdfnhnpnaaGreatDoor
open Go.RowKit Go.Lib
theorem T8:(Tryz.prog.info? 167).map (fun i=>(i.zero,i.size,i.bytes))=some (some (.slice none 0 0),1,24):=by kernel_rfl
theorem VN (w:World) (n:Nat) (hn:n≤1000000):(Instr.makeSlice 163 (.int .i64 (n:Int)) (.int .i64 (n:Int))).run Tryz.prog w = .ok (.slice (some ⟨w.heap.size,0,none⟩) n n) (w.alloc (.cells (List.replicate n jr).toArray 167)):=by
 have:=run_make_row' (P:=Tryz.prog) 163 167 jr 24 Tryz.underlying163 T8 rfl .i64 .i64 n (by omega) (by omega) w;rw[z7] at this;exact this
structure qU (w wr:World) (g n:Nat) (M:List (List Rat)) (k:Nat) (R:List jI):Prop where
 own:ja wr g 167 (R.map (kK n)++List.replicate (M.length-k) jr)
 rows:∀r∈R,(∃es,jo wr r.1 es r.2.2)∧r.2.2.length=n∧n≤r.2.1∧r.2.1≤9223372036854775807
 new:∀r∈R,w.heap.size≤r.1
 apart:(R.map (·.1)).Nodup
 vals:jv R=M.take k
theorem qU.start (w:World) (M:List (List Rat)) (n:Nat):qU w (w.alloc (.cells (List.replicate M.length jr).toArray 167)) w.heap.size n M 0 []:=
 ⟨by simpa using ja.make w 167 (List.replicate M.length jr),by simp,by simp,by simp,rfl⟩
theorem qU.len {w wr:World} {g n:Nat} {M:List (List Rat)} {k:Nat} {R:List jI} (h:qU w wr g n M k R) (hk:k≤M.length):R.length=k:=by
 have:=congrArg List.length h.vals;rw[yk] at this;simp at this;omega
theorem qU.step {w wr w1:World} {g n gn cn:Nat} {M:List (List Rat)} {k:Nat} {R:List jI} {r:List Rat} {es:List El} (h:qU w wr g n M k R) (hk:M[k]? =some r) (hl:r.length=n) (hn:n≤cn) (hcn:cn≤9223372036854775807) (hb:Below wr.heap.size wr w1) (hg:wr.heap.size≤gn) (hgn:w.heap.size≤gn) (hO:jo w1 gn es r):
  qU w (w1.setCell ⟨g,k,none⟩ (.slice (some ⟨gn,0,none⟩) n cn)) g n M (k+1) (R++[(gn,cn,r)]):=by
 have hkl:k<M.length:=(List.getElem?_eq_some_iff.1 hk).1;have hR:=h.len (by omega);have hglt:=h.own.lt;have hO1:=h.own.below hb hglt;have hBt:jh g w1 (w1.setCell ⟨g,k,none⟩ (.slice (some ⟨gn,0,none⟩) n cn)):=(jh.refl g w1).setCell ⟨g,k,none⟩ rfl _
 have hno:∀c∈R.map (kK n)++List.replicate (M.length-k) jr,kf c:=by
  intro c hc;rcases List.mem_append.1 hc with hc | hc
  ·exact Zy n R c hc
  ·rw[List.eq_of_mem_replicate hc];exact jq _ _ _
 have hK:=kp.but hBt hO1 hno
 have hne:∀(b:Nat) (es:List El) (q:List Rat),jo w1 b es q→b≠g:=fun b es q hq e=>by
  have h1:=hq.own;unfold ja at h1 hO1;rw[e] at h1;rw[hO1] at h1
  injection h1 with h1
  injection h1 with _ h1
  exact absurd h1 (by decide)
 refine⟨?_,?_,?_,?_,?_⟩
 ·have:=hO1.put k (.slice (some ⟨gn,0,none⟩) n cn)
  rw[List.set_append_right _ _ (by simp[hR]),show M.length-k=(M.length-(k+1))+1 by omega,List.replicate_succ,List.length_map,hR,Nat.sub_self,List.set_cons_zero] at this;rw[List.map_append,List.append_assoc];exact this
 ·intro x hx
  rcases List.mem_append.1 hx with hx | hx
  ·have:=h.rows x hx
   obtain⟨es',he⟩:=this.1;have he1:=he.below hb;exact⟨⟨es',he1.keeps hK (hBt.block _ he1.own.lt (hne _ _ _ he1))⟩,this.2⟩
  ·obtain rfl:=List.mem_singleton.1 hx
   exact⟨⟨es,hO.keeps hK (hBt.block _ hO.own.lt (hne _ _ _ hO))⟩,hl,hn,hcn⟩
 ·intro x hx
  rcases List.mem_append.1 hx with hx | hx
  ·exact h.new x hx
  ·obtain rfl:=List.mem_singleton.1 hx;exact hgn
 ·rw[List.map_append,List.nodup_append]
  refine⟨h.apart,by simp,fun a ha b hb'=> ?_⟩;obtain⟨x,hx,rfl⟩:=List.mem_map.1 ha;simp at hb';obtain⟨es',he⟩:=(h.rows x hx).1;have:=he.own.lt;omega
 ·unfold jv;rw[List.map_append]
  have:=h.vals;unfold jv at this;rw[this,List.take_add_one,hk];rfl
theorem qU.done {w wr:World} {g n:Nat} {M:List (List Rat)} {R:List jI} (h:qU w wr g n M M.length R):j6 wr g R n∧jv R=M∧R.length=M.length:=
 ⟨⟨by have:=h.own;rw[Nat.sub_self] at this;simpa using this,h.rows,h.apart⟩,by rw[h.vals,List.take_of_length_le (Nat.le_refl _)],h.len (Nat.le_refl _)⟩
theorem jO.toBelow {s:List Nat} {a b:World} {B:Nat} (h:jO s a b) (hs:∀k∈s,B≤k) (hB:B≤a.heap.size):Below B a b:=
 ⟨h.os,h.tape,h.output,h.size,fun k hk=>h.block k (by omega) (fun hm=>by have:=hs k hm;omega)⟩
theorem V9 (n:Int):kr (.int .i64 n):=by intro m h;cases h
theorem Dc (n:Int):∀u∈[Value.int .i64 n],kr u:=by intro u hu;simp at hu;subst hu;exact V9 n
theorem FT:∀u∈(Value.int .i64 0).cells.toList,kr u:=by intro u hu;simp[Value.cells] at hu;subst hu;exact V9 0
def yg:Value:= .agg #[.bool false,.slice none 0 0,.slice none 0 0]
theorem KV:(Tryz.prog.info? 122).map (fun i=>(i.zero,i.size,i.bytes))=some (some yg,3,56):=by kernel_rfl
theorem ZY:∀u∈yg.cells.toList,kr u:=by
 intro u hu;simp[Value.cells,yg] at hu;rcases hu with rfl | rfl
 ·exact(js _).noU
 ·exact(jq _ _ _).noU
theorem Zc (s:Bool) (A B:Option Addr) (n m c d:Nat):∀u∈[Value.bool s,.slice A n c,.slice B m d],kr u:=by
 intro u hu;simp at hu;rcases hu with rfl | rfl | rfl
 ·exact(js _).noU
 ·exact(jq _ _ _).noU
 ·exact(jq _ _ _).noU
theorem K8 (s:Bool) (A B:Option Addr) (n m c d:Nat):∀u∈[Value.bool s,.slice A n c,.slice B m d],u.oneCell'=true:=by
 intro u hu;simp at hu;rcases hu with rfl | rfl | rfl <;> rfl
theorem Yl (w:World) (a b c:Value) (t:TypeId):∀j u,[a,b,c][j]? =some u→(w.alloc (.cells #[a,b,c] t)).cell? ((⟨w.heap.size,0,none⟩:Addr).add j)=some u:=by
 intro j u hu;have h:=ja.make w t [a,b,c]
 have e:((⟨w.heap.size,0,none⟩:Addr).add j)=⟨w.heap.size,j,none⟩:=by
  unfold Addr.add;split
  ·subst j;rfl
  ·simp
 rw[e];exact(h.cell j).trans hu
theorem zR.parts {S:jP Rat} {i j ib ic:Nat} {il:List Rat} {Q:List jI} {x:Rat} (h:zR i j S) (hQ:qp i S=Q) (hr:Q[S.cols.length]? =some (ib,ic,il)) (hx:il[j]?.getD 0=x):
  (∀x∈il,kA x) ∧ ∀(k:Nat) (r:jI),(setRow Q S.cols.length (kR jm x j il))[k]? =some r→k≠S.cols.length→Qy j r.2.2 (kR jm x j il):=by
 have e1:elPiv jm i j S=x:=by unfold elPiv kB;rw[hQ,zf hr];exact hx
 have e2:elDiv jm i j S=setRow Q S.cols.length (kR jm x j il):=by unfold elDiv;rw[e1,hQ,zf hr]
 have e3:xJ (elDiv jm i j S) S.cols.length=kR jm x j il:=by rw[e2,zf (xt hr _)]
 obtain⟨h1,h2⟩:=h;rw[hQ,zf hr] at h1;rw[e3,e2] at h2;exact⟨h1,h2⟩
theorem y7 (a b:List El):jz (a++b)=jz a++jz b:=by
 induction a with
 | nil=>rfl
 | cons e t ih=>simp only[List.cons_append,jz,ih]
theorem Gp {P:Program} (w:World) (dT sT ty elem:TypeId) (size g o dLen dCap:Nat) (a:Addr) (sLen sCap:Nat) (cur:Array Value) (t:TypeId) (m:Nat) (cs:List Value)
  (hu:P.underlying dT=some (.slice elem)) (hs:(P.info? elem).map (·.size)=some size)
  (hg:w.heap[g]? =some (.cells cur t (0,0))) (hm:Nat.min sLen dLen=m) (hn:cs.length=m*size)
  (hsrc:∀j v,cs[j]? =some v→w.cell? (a.add j)=some v) (hfit:o+cs.length≤cur.size) (h1:∀v∈cs,v.oneCell'=true):
  (Builtin.copy_ #[dT,sT] ty #[.slice (some ⟨g,o,none⟩) dLen dCap,.slice (some a) sLen sCap]).run P w =
   .ok (goInt m) (w.setRow g (cur.toList.take o++cs++cur.toList.drop (o+cs.length)).toArray):=by
 have hl:=run_loadCells_list (P:=P) w a cs hsrc;have hst:=run_storeCells_at P g o t cs 0 cur w hg (by simpa using hfit) h1
 cases hq:P.info? elem with
 | none=>simp[hq] at hs
 | some i=>
  have hi:i.size=size:=by simpa [hq] using hs
  simp[Builtin.copy_,run_underlying hu,Builtin.lenOf,Builtin.firstCells,sizeOf,typeInfo,hq,hi,hm,←hn,hl,hst]
theorem FG {P:Program} {w:World} {ops:Array Oper} {rest:List Oper} {o:Oper} {a:Act} {Q:Exit→Act→World→Prop} (hgd:o.guard=none) (d s:Operand) (dT sT:TypeId)
  (ho:o.op = .call { callee:= .builtin .copy,args:= #[d,s],argTypes:= #[dT,sT] }) (elem:TypeId) (size:Nat) (hu:P.underlying dT=some (.slice elem)) (hsz:(P.info? elem).map (·.size)=some size)
  (g off dLen dCap:Nat) (ad:Addr) (sLen sCap:Nat) (hd:a.eval d = .slice (some ⟨g,off,none⟩) dLen dCap) (hs:a.eval s = .slice (some ad) sLen sCap)
  (cur:List Value) (t:TypeId) (hg:w.heap[g]? =some (.cells cur.toArray t (0,0))) (m:Nat) (hm:Nat.min sLen dLen=m) (cs:List Value) (hn:cs.length=m*size)
  (hsrc:∀j v,cs[j]? =some v→w.cell? (ad.add j)=some v) (hfit:off+cs.length≤cur.length) (h1:∀v∈cs,v.oneCell'=true) (B:Nat) (w0:World) (hb:Below B w0 w) (hBg:B≤g)
  (h:∀w',Hid (w'.heap[g]? =some (.cells (splice cur off cs).toArray t (0,0)))→Below B w0 w'→wpList P ops Q rest (a.put o.dst (goInt m)) w'):wpList P ops Q (o::rest) a w:=by
 refine wpList_plain hgd fun K hK=> ?_
 have hrun:=Gp (P:=P) w dT sT o.type elem size g off dLen dCap ad sLen sCap cur.toArray t m cs hu hsz hg hm hn hsrc (by simpa using hfit) h1;unfold Oper.wp;simp[execOp,ho,resolve,invoke,builtin,hd,hs,hrun,Result.andThen];exact hK _ _ (h _ (show _=_ by simpa [splice] using setRow_heap w g _ _ t _ hg) (below_setRow hb hBg _))
abbrev j7:El:=(false,.slice none 0 0,.slice none 0 0)
theorem VK (n:Nat):(madeCells #[Value.bool false,.slice none 0 0,.slice none 0 0] (n*3)).toList=jz (List.replicate n j7):=by
 apply List.ext_getElem?;intro j;unfold madeCells;simp only[Array.toList_map,List.getElem?_map,Array.toList_range];rcases Nat.lt_or_ge j (n*3) with hj | hj
 ·rw[List.getElem?_range hj]
  have hq:j/3<n:=by omega
  obtain⟨h1,h2,h3⟩:=Q0 (List.replicate n j7) (j/3) j7 (by simp[hq]);have hd:=Nat.div_add_mod j 3;have hm:=Nat.mod_lt j (show 0<3 by omega)
  have hc:j%3=0∨j%3=1∨j%3=2:=by omega
  rcases hc with hc | hc | hc
  ·have e:j/3*3=j:=by omega
   rw[e] at h1;rw[h1];simp[hc]
  ·have e:j/3*3+1=j:=by omega
   rw[e] at h2;rw[h2];simp[hc]
  ·have e:j/3*3+2=j:=by omega
   rw[e] at h3;rw[h3];simp[hc]
 ·rw[List.getElem?_eq_none (by simpa using hj),List.getElem?_eq_none (by rw[qB];simpa using hj)];rfl
def kE (e:El) (n k:Nat):List Value:=jz (List.replicate k e++List.replicate (n-k) j7)
theorem Vd (e:El) {n k:Nat} (h:k≤n):(kE e n k).length=n*3:=by unfold kE;rw[qB];simp;omega
theorem Ve (e:El) {n k m:Nat} (h:k+m≤n):splice (kE e n k) (k*3) (jz (List.replicate m e))=kE e n (k+m):=by
 unfold splice kE;rw[y7,List.take_left' (by rw[qB];simp),qB,List.length_replicate]
 have hz:List.replicate (n-k) j7=List.replicate m j7++List.replicate (n-(k+m)) j7:=by rw[List.replicate_append_replicate];congr 1;omega
 rw[hz,y7,←List.append_assoc (jz _) (jz _) (jz _),List.drop_left' (by rw[List.length_append,qB,qB];simp),←y7,←y7]
 congr 1
 rw[←List.append_assoc,List.replicate_append_replicate]
theorem Y2 (w:World) (e:El) (n:Nat) (hn:n≤1000000):(Instr.makeSlice 167 (.int .i64 (n:Int)) (.int .i64 (n:Int))).run Tryz.prog w = .ok (.slice (some ⟨w.heap.size,0,none⟩) n n) (w.alloc (.cells (kE e n 0).toArray 122)):=by
 obtain⟨i,hi,hz,hs,hb⟩:=info_parts KV;have:=run_makeSlice (P:=Tryz.prog) (w:=w) 167 122 i yg Tryz.underlying167 hi hz .i64 .i64 (n:Int) (n:Int) (by omega) (by omega) (by rw[hs];simp;omega) (by rw[hb];omega) (by omega);rw[this,hs]
 have e1:madeCells yg.cells ((n:Int).toNat*3)=(kE e n 0).toArray:=by
  rw[Int.toNat_natCast];apply Array.toList_inj.1
  show (madeCells #[Value.bool false,.slice none 0 0,.slice none 0 0] (n*3)).toList=_
  rw[VK];simp[kE]
 rw[e1];simp
abbrev jB:=List UInt8
def sv (l:jB):Value:= .string ⟨l.toArray⟩
def jR (L:List jB):List Value:=L.map sv
theorem xr (L:List jB):(jR L).length=L.length:=by simp[jR]
theorem XF (L:List jB) (k:Nat) (h:k<L.length):(jR L)[k]? =some (sv (L[k]?.getD [])):=by simp[jR,h]
def xB (l:jB):Prop:=l.length<4294967281∧ql l.length
def qt:List jB→Int
 | []=>0
 | l::r=>if (jn l).1=0 then qt r else (jn l).1
theorem B8 (k:Nat) (L:List jB) {l:jB} (h:L[k]? =some l):qt (L.drop k)=if (jn l).1=0 then qt (L.drop (k+1)) else (jn l).1:=by
 obtain⟨hk,rfl⟩:=List.getElem?_eq_some_iff.1 h;rw[List.drop_eq_getElem_cons hk];rfl
def ju (L:List jB):List Rat:=L.map fun l=>(jn l).2
theorem Cl (L:List jB) (k:Nat) {l:jB} (h:L[k]? =some l):ju (L.take (k+1))=ju (L.take k)++[(jn l).2]:=by
 unfold ju;rw[List.take_add_one,h,List.map_append];rfl
section
variable {w w':World} {b:Nat} {es:List El} {qs:List Rat}
theorem jo.raw (h:jo w b es qs) {j:Nat} (hj:j<es.length):∃x y z:Value,w.cell? ⟨b,j*3,none⟩=some x∧w.cell? ⟨b,j*3+1,none⟩=some y∧w.cell? ⟨b,j*3+2,none⟩=some z ∧
  w.frozen? ⟨b,j*3,none⟩=false∧w.frozen? ⟨b,j*3+1,none⟩=false∧w.frozen? ⟨b,j*3+2,none⟩=false:=by
 obtain⟨h1,h2,h3⟩:=Q0 es j _ (List.getElem?_eq_getElem hj);exact⟨_,_,_,(h.own.cell _).trans h1,(h.own.cell _).trans h2,(h.own.cell _).trans h3,h.own.free _,h.own.free _,h.own.free _⟩
theorem jo.push (h:jo w b es qs) {e:El} {q:Rat} (hj:qs.length<es.length) (hq:Rt w (kX e) q):
  jo (((w.setCell ⟨b,qs.length*3,none⟩ (.bool e.1)).setCell ⟨b,qs.length*3+1,none⟩ e.2.1).setCell ⟨b,qs.length*3+2,none⟩ e.2.2) b (es.set qs.length e) (qs++[q]):=by
 have hb:=jh.set3 w b (qs.length*3) (.bool e.1) e.2.1 e.2.2;have hn:=h.noInt;refine⟨?_,by simp;omega,fun a ha=> ?_,fun i a r hi hr=> ?_⟩
 ·rw[←U4 es qs.length e hj]
  exact((h.own.put _ _).put _ _).put _ _
 ·rcases List.mem_or_eq_of_mem_set ha with ha | rfl
  ·exact h.noi a ha
  ·exact hq.elNo
 ·by_cases hij:i=qs.length
  ·subst hij
   rw[List.getElem?_set_self hj] at hi;rw[List.getElem?_append_right (Nat.le_refl _),Nat.sub_self] at hr;obtain rfl:=Option.some.inj hi;obtain rfl:=Option.some.inj hr;exact hq.stay h.own hn hb
  ·have hil:i<(qs++[q]).length:=(List.getElem?_eq_some_iff.1 hr).1
   rw[List.length_append,List.length_singleton] at hil;rw[List.getElem?_set_ne (fun e=>hij e.symm)] at hi;rw[List.getElem?_append_left (by omega)] at hr;exact(h.num i a r hi hr).stay h.own hn hb
end
def R0 (L:List jB) (w:World) (e:Ending) (w':World):Prop:=
 Below w.heap.size w w'∧((qt L=0 ∧ ∃g es,e = .returned (.tuple #[.slice (some ⟨g,0,none⟩) L.length L.length,.int .i64 0])∧w.heap.size≤g∧jo w' g es (ju L))∨(qt L≠0∧e = .returned (.tuple #[jr,.int .i64 (qt L)])))
theorem UI (v:Value) (L:List jB) (w:World) (hv:jE w v (jR L)) (hl:L.length≤1000000) (hT:∀l∈L,xB l) (hG:jH w):
  Calls Tryz.prog 199 #[v,.func (.func 102) #[] #[]] w (R0 L w):=by
 obtain⟨A,c,rfl,hc1,hc2,hcell⟩:=hv;simp only[xr] at hc1 hcell ⊢;have hmk:=Y2 w j7 L.length hl
 have HO:Hid (jo (w.alloc (.cells (kE j7 L.length 0).toArray 122)) w.heap.size (List.replicate L.length j7) (ju (L.take 0))):=hid (by
  refine⟨?_,by simp[ju],fun e he=> ?_,fun i e q h1 h2=>by simp[ju] at h2⟩
  ·have:=ja.make w 122 (kE j7 L.length 0)
   rw[show kE j7 L.length 0=jz (List.replicate L.length j7) by simp[kE]] at this ⊢;exact this
  ·rw[List.eq_of_mem_replicate he];exact⟨jq _ _ _,jq _ _ _⟩)
 have HT:=hid hT;have HG:=hid hG;have HC:=hid hcell;clear hT hG hcell;go_enter Tryz.func199,Tryz.ntmps199
 go_wp2_with fail
 clear hmk
 go_loopg [15] L.length (fun gh i wr=>∃(k:Nat) (es:List El),i = .int .i64 k∧k+gh=L.length∧Hid (qt L=qt (L.drop k))∧Hid (jo wr w.heap.size es (ju (L.take k)))∧Hid (es.length=L.length)∧Hid (Below w.heap.size w wr))
 case atStart=>exact⟨0,_,rfl,by omega,hid rfl,HO,hid (by simp),hid ((Below.refl _ _).alloc (Nat.le_refl _) _)⟩
 case round=>
  clear HO;obtain⟨k,es,rfl,hk,hE,hO,hEl,hB⟩:=hrel
  cases gk with
  | zero=>
   have hkl:k=L.length:=by omega
   have hin:¬((k:Int)<(L.length:Int)):=by omega
   have HR:Hid (qt L=0):=hid (by rw[hE.out,hkl,List.drop_length];rfl);have HO:=hid (show jo wr w.heap.size es (ju L) by have:=hO.out;rwa [hkl,List.take_of_length_le (Nat.le_refl _)] at this);clear hkl hO hE hk
   go_wp2
   go_ret2;exact⟨hB.out,.inl ⟨HR.out,_,es,rfl,Nat.le_refl _,HO.out⟩⟩
  | succ gh=>
   have hlt:k<L.length:=by omega
   have hlt':(k:Int)<(L.length:Int):=by omega
   obtain⟨l,hl0⟩:∃l,L[k]? =some l:=⟨L[k],List.getElem?_eq_getElem hlt⟩
   obtain⟨b0,off,rfl,hbb,hcell⟩:=HC.out (by omega);have hck:=(hB.out.cell (p:=⟨b0,off+k,none⟩) hbb).trans ((hcell k hlt).trans (by rw[XF L k hlt,hl0];rfl:(jR L)[k]? =some (sv l)))
   have hql:(ju (L.take k)).length=k:=by simp[ju];omega
   have hkes:k<es.length:=by rw[hEl.out];exact hlt
   obtain⟨x0,x1,x2,c0,c1,c2,f0,f1,f2⟩:=hO.out.raw hkes;have hbl:=hO.out.own.lt;have HD:=hid (B8 k L hl0);have HV:=hid (Cl L k hl0);have Hk:=hid hk;have Hql:=hid hql;have hok:=HT.out l (List.mem_of_getElem? hl0);have RD:=hid (WW l wr hok.1 (HG.out.below hB.out) hok.2);unfold sv at hck;clear hcell hl0 hk hql hok
   go_wp2_with fail
   refine RD.out.mono ?_;clear RD;rintro e w1 h;by_cases h1:(jn l).1=0
   ·obtain⟨qv,rfl,hq,hB1⟩:Jb (jn l).2 wr e w1:=by unfold ze at h;rw[if_pos h1] at h;exact h
    obtain⟨s,Q1,n1,d1,Q2,n2,d2,rfl⟩:=hq.shape;have c0':=(hB1.cell (p:=⟨w.heap.size,k*3,none⟩) hbl).trans c0;have c1':=(hB1.cell (p:=⟨w.heap.size,k*3+1,none⟩) hbl).trans c1;have c2':=(hB1.cell (p:=⟨w.heap.size,k*3+2,none⟩) hbl).trans c2;have f0':=(hB1.frozen (p:=⟨w.heap.size,k*3,none⟩) hbl).trans f0;have f1':=(hB1.frozen (p:=⟨w.heap.size,k*3+1,none⟩) hbl).trans f1;have f2':=(hB1.frozen (p:=⟨w.heap.size,k*3+2,none⟩) hbl).trans f2;have hbl1:w.heap.size<w1.heap.size:=Nat.lt_of_lt_of_le hbl hB1.size;have HE2:Hid (qt L=qt (L.drop (k+1))):=hid (by rw[hE.out,HD.out,if_pos h1])
    have HO2:Hid (jo (((w1.setCell ⟨w.heap.size,k*3,none⟩ (.bool s)).setCell ⟨w.heap.size,k*3+1,none⟩ (.slice Q1 n1 d1)).setCell ⟨w.heap.size,k*3+2,none⟩ (.slice Q2 n2 d2)) w.heap.size (es.set k (s,.slice Q1 n1 d1,.slice Q2 n2 d2)) (ju (L.take (k+1)))):=hid (by
     have:=(hO.out.below hB1).push (e:=(s,.slice Q1 n1 d1,.slice Q2 n2 d2)) (q:=(jn l).2) (by rw[Hql.out];exact hkes) hq;rw[Hql.out,←HV.out] at this
     exact this)
    have HB2:=hid ((((hB.out.trans (hB1.mono hB.out.size)).setCell (p:=⟨w.heap.size,k*3,none⟩) (Nat.le_refl _) (.bool s)).setCell (p:=⟨w.heap.size,k*3+1,none⟩) (Nat.le_refl _) (.slice Q1 n1 d1)).setCell (p:=⟨w.heap.size,k*3+2,none⟩) (Nat.le_refl _) (.slice Q2 n2 d2));have HL2:Hid ((es.set k (s,.slice Q1 n1 d1,.slice Q2 n2 d2)).length=L.length):=hid (by rw[List.length_set];exact hEl.out);generalize es.set k (s,.slice Q1 n1 d1,.slice Q2 n2 d2)=es2 at *;clear h h1 hq hB1 hO hE hB c0 c1 c2 f0 f1 f2 hkes HV HD
    go_wp2
    go_roundg gh
    case rel=>exact⟨k+1,es2,by go_num,by have:=Hk.out;omega,HE2,HO2,HL2,HB2⟩
    case measure=>omega
   ·obtain⟨rfl,hB1⟩:kZ (jn l).1 wr e w1:=by unfold ze at h;rw[if_neg h1] at h;exact h
    have c0':=(hB1.cell (p:=⟨w.heap.size,k*3,none⟩) hbl).trans c0;have c1':=(hB1.cell (p:=⟨w.heap.size,k*3+1,none⟩) hbl).trans c1;have c2':=(hB1.cell (p:=⟨w.heap.size,k*3+2,none⟩) hbl).trans c2;have f0':=(hB1.frozen (p:=⟨w.heap.size,k*3,none⟩) hbl).trans f0;have f1':=(hB1.frozen (p:=⟨w.heap.size,k*3+1,none⟩) hbl).trans f1;have f2':=(hB1.frozen (p:=⟨w.heap.size,k*3+2,none⟩) hbl).trans f2;have hbl1:w.heap.size<w1.heap.size:=Nat.lt_of_lt_of_le hbl hB1.size;have HR:Hid (qt L=(jn l).1):=hid (by rw[hE.out,HD.out,if_neg h1]);have HB2:=hid ((((hB.out.trans (hB1.mono hB.out.size)).setCell (p:=⟨w.heap.size,k*3,none⟩) (Nat.le_refl _) (.bool false)).setCell (p:=⟨w.heap.size,k*3+1,none⟩) (Nat.le_refl _) (.slice none 0 0)).setCell (p:=⟨w.heap.size,k*3+2,none⟩) (Nat.le_refl _) (.slice none 0 0))
    have h1':((jn l).1 != 0)=true:=by simpa using h1
    have H1:=hid h1;unfold jY;generalize (jn l).1=ec at *;clear h h1 hB1 hO hE hB c0 c1 c2 f0 f1 f2 hkes HV HD
    go_wp2
    go_ret2;exact⟨HB2.out,.inr ⟨by rw[HR.out];exact H1.out,by rw[HR.out];rfl⟩⟩
def ku (w:World) (v:Value) (M:List (List jB)):Prop:=
 ∃vs:List Value,jE w v vs∧vs.length=M.length ∧ ∀(i:Nat) (r:List jB),M[i]? =some r → ∃u,vs[i]? =some u∧jE w u (jR r)
theorem ku.below {w w':World} {v:Value} {M:List (List jB)} (h:ku w v M) (hb:Below w.heap.size w w'):ku w' v M:=by
 obtain⟨vs,h1,h2,h3⟩:=h;exact⟨vs,h1.below hb,h2,fun i r hr=>by obtain⟨u,hu,hs⟩:=h3 i r hr;exact⟨u,hu,hs.below hb⟩⟩
theorem ku.form {w:World} {v:Value} {M:List (List jB)} (h:ku w v M):∃A c,v = .slice A M.length c∧M.length≤c∧M.length≤140737488355328:=by
 obtain⟨vs,h1,h2,_⟩:=h;obtain⟨A,c,h3,h4,h5⟩:=h1.form;rw[h2] at h3 h4 h5;exact⟨A,c,h3,h4,h5⟩
def zh (n0:Nat):List (List jB)→Int
 | []=>0
 | r::t=>if 256<r.length then 5 else if r.length≠n0 then 2 else if qt r=0 then zh n0 t else qt r
def ko (M:List (List jB)):Int:=if 256<M.length then 5 else zh ((M[0]?.map (·.length)).getD 0) M
theorem Cd (n0 k:Nat) (M:List (List jB)) {r:List jB} (hr:M[k]? =some r):zh n0 (M.drop k)=if 256<r.length then 5 else if r.length≠n0 then 2 else if qt r=0 then zh n0 (M.drop (k+1)) else qt r:=by
 obtain⟨hk,rfl⟩:=List.getElem?_eq_some_iff.1 hr;rw[List.drop_eq_getElem_cons hk];rfl
def Cf (M:List (List jB)) (w:World) (e:Ending) (w':World):Prop:=
 Below w.heap.size w w'∧((ko M=0 ∧ ∃(g:Nat) (R:List jI),e = .returned (.tuple #[.slice (some ⟨g,0,none⟩) M.length M.length,.int .i64 0])∧w.heap.size≤g∧(∀r∈R,w.heap.size≤r.1)∧j6 w' g R ((M[0]?.map (·.length)).getD 0)∧jv R=M.map ju) ∨
  (ko M≠0∧e = .returned (.tuple #[jr,.int .i64 (ko M)])))
theorem Zv (v:Value) (M:List (List jB)) (w:World) (hv:ku w v M) (hT:∀r∈M,∀l∈r,xB l) (hG:jH w):
  Calls Tryz.prog 145 #[v,.func (.func 102) #[] #[]] w (Cf M w):=by
 obtain⟨vs,hs,hvl,hrow⟩:=hv;obtain⟨A,c,rfl,hc1,hc2⟩:=hs.form;have HROW:=hid hrow;have HT:=hid hT;have HG:=hid hG;clear hrow hT hG;rw[hvl] at hc1 hc2 hs ⊢;by_cases hbig:256<M.length
 ·have HE:Hid (ko M=5):=hid (by unfold ko;rw[if_pos hbig])
  have hbi:(256:Int)<(M.length:Int):=by omega
  clear hs;go_enter Tryz.func145,Tryz.ntmps145
  go_wp2
  go_ret2;exact⟨Below.refl _ _,.inr ⟨by rw[HE.out];decide,by rw[HE.out];rfl⟩⟩
 ·have hbi:¬(256:Int)<(M.length:Int):=by omega
  obtain⟨n,hn⟩:∃n,n=(M[0]?.map (·.length)).getD 0:=⟨_,rfl⟩
  have HN:=hid hn;have HME:Hid (ko M=zh n M):=hid (by unfold ko;rw[if_neg hbig,hn]);clear hn
  obtain⟨V,hV⟩:∃V,V=M.map ju:=⟨_,rfl⟩
  have HV:=hid hV;have HVl:Hid (V.length=M.length):=hid (by rw[hV];simp);clear hV;have hmk:=VN w M.length (by omega);have HS0:Hid (qU w (w.alloc (.cells (List.replicate M.length jr).toArray 167)) w.heap.size n V 0 []):=hid (by have:=qU.start w V n;rw[HVl.out] at this;exact this);have hB0:Below w.heap.size w (w.alloc (.cells (List.replicate M.length jr).toArray 167)):=(Below.refl _ _).alloc (Nat.le_refl _) _;go_enter Tryz.func145,Tryz.ntmps145
  go_wp2_with fail
  clear hmk
  go_loopg [18] M.length (fun gh i wr=>∃(k:Nat) (R:List jI),i = .int .i64 k∧k+gh=M.length∧Hid (zh n M=zh n (M.drop k))∧Hid (qU w wr w.heap.size n V k R)∧Below w.heap.size w wr)
  case atStart=>exact⟨0,[],rfl,by omega,hid rfl,HS0,hB0⟩
  case round=>
   clear HS0 hB0;obtain⟨k,R,rfl,hk,hE,hTo,hB⟩:=hrel
   cases gk with
   | zero=>
    have hkl:k=M.length:=by omega
    have hin:¬((k:Int)<(M.length:Int)):=by omega
    have HR:Hid (ko M=0):=hid (by rw[HME.out,hE.out,hkl,List.drop_length];rfl);have HMX:=hid (show qU w wr w.heap.size n V V.length R by have:=hTo.out;rw[hkl,←HVl.out] at this;exact this).done;have HNW:=hid hTo.out.new;clear hE hTo hk hkl
    go_wp2
    go_ret2;exact⟨hB,.inl ⟨HR.out,_,R,rfl,Nat.le_refl _,HNW.out,HN.out ▸ HMX.out.1,HMX.out.2.1.trans HV.out⟩⟩
   | succ gh=>
    have hlt:k<M.length:=by omega
    have hlt':(k:Int)<(M.length:Int):=by omega
    obtain⟨r,hr⟩:∃r,M[k]? =some r:=⟨M[k],List.getElem?_eq_getElem hlt⟩
    obtain⟨r0,hr0⟩:∃r,M[0]? =some r:=⟨M[0]'(by omega),List.getElem?_eq_getElem _⟩
    have hn0:r0.length=n:=by rw[HN.out,hr0];rfl
    obtain⟨u,hu,hus⟩:=HROW.out k r hr;obtain⟨u0,hu0,hus0⟩:=HROW.out 0 r0 hr0;obtain⟨b0,off,hA,hbb,hcell⟩:=hs.at_ (k:=k) (by omega);have hc1':=(hB.cell (p:=⟨b0,off+k,none⟩) hbb).trans ((hcell k (by omega)).trans hu);have hc0':=(hB.cell (p:=⟨b0,off,none⟩) hbb).trans ((hcell 0 (by omega)).trans hu0);obtain⟨A1,k1,rfl,hk1,hk2⟩:=hus.form;obtain⟨A0,k0,rfl,hk3,hk4⟩:=hus0.form;simp only[xr] at hk1 hk2 hk3 hk4 hus hc1' hc0';rw[hn0] at hc0';have HD:=hid (Cd n k M hr);have Hk:=hid hk;have HVr:Hid (V[k]? =some (ju r)):=hid (by rw[HV.out,List.getElem?_map,hr];rfl);have HTr:=hid (HT.out r (List.mem_of_getElem? hr));have CV:=hid (fun (hl:r.length≤1000000) W (hw:Below w.heap.size w W)=>UI (.slice A1 r.length k1) r W (hus.below hw) hl HTr.out (HG.out.below hw));subst hA;clear hu hu0 hus hus0 hcell hr hr0 hn0 hk hc1 hs;by_cases h1:256<r.length
    ·have hr1:(256:Int)<(r.length:Int):=by omega
     have HR:Hid (ko M=5):=hid (by rw[HME.out,hE.out,HD.out,if_pos h1])
     go_wp2
     go_ret2;exact⟨hB,.inr ⟨by rw[HR.out];decide,by rw[HR.out];rfl⟩⟩
    ·have hr1:¬(256:Int)<(r.length:Int):=by omega
     by_cases h2:r.length=n
     ·subst h2
      have CV2:=hid (CV.out (by omega) wr hB);have hgl:=hTo.out.own.lt
      have hck:=(hTo.out.own.cell k).trans (show _=some jr by
       rw[List.getElem?_append_right (by rw[List.length_map,hTo.out.len (by rw[HVl.out];omega)];exact Nat.le_refl _),List.length_map,hTo.out.len (by rw[HVl.out];omega),Nat.sub_self,List.getElem?_replicate,if_pos (by rw[HVl.out];omega)])
      have hfk:=hTo.out.own.free k
      have hrn:r.length≤256:=by omega
      go_wp2_with fail
      refine CV2.out.mono ?_;rintro e w1 ⟨hB1,⟨hib,gn,esn,rfl,hg,hO1⟩ | ⟨hib,rfl⟩⟩
      ·have hck1:=(hB1.cell (p:=⟨w.heap.size,k,none⟩) hgl).trans hck
       have hfk1:=(hB1.frozen (p:=⟨w.heap.size,k,none⟩) hgl).trans hfk;have HT2:=hid (hTo.out.step (cn:=r.length) HVr.out (by simp[ju]) (Nat.le_refl _) (by omega) hB1 hg (Nat.le_trans hB.size hg) hO1);have HE2:Hid (zh r.length M=zh r.length (M.drop (k+1))):=hid (by rw[hE.out,HD.out,if_neg h1,if_neg (by simp),if_pos hib]);have HB2:=hid ((hB.trans (hB1.mono hB.size)).setCell (p:=⟨w.heap.size,k,none⟩) (Nat.le_refl _) (.slice (some ⟨gn,0,none⟩) r.length r.length));clear hTo hE hck hfk hib hO1
       go_wp2
       go_roundg gh
       case rel=>exact⟨k+1,_,by go_num,by have:=Hk.out;omega,HE2,HT2,HB2.out⟩
       case measure=>omega
      ·have hck1:=(hB1.cell (p:=⟨w.heap.size,k,none⟩) hgl).trans hck
       have hfk1:=(hB1.frozen (p:=⟨w.heap.size,k,none⟩) hgl).trans hfk;have HR:Hid (ko M=qt r):=hid (by rw[HME.out,hE.out,HD.out,if_neg h1,if_neg (by simp),if_neg hib]);have HB2:=hid ((hB.trans (hB1.mono hB.size)).setCell (p:=⟨w.heap.size,k,none⟩) (Nat.le_refl _) jr)
       have hne:(qt r != 0)=true:=by simpa using hib
       have HIB:=hid hib;generalize qt r=ec at *;clear hTo hE hck hfk hib
       go_wp2
       go_ret2;exact⟨HB2.out,.inr ⟨by rw[HR.out];exact HIB.out,by rw[HR.out];rfl⟩⟩
     ·have hr2:((r.length:Int) != (n:Int))=true:=by simp;omega
      have HR:Hid (ko M=2):=hid (by rw[HME.out,hE.out,HD.out,if_neg h1,if_pos h2])
      go_wp2
      go_ret2;exact⟨hB,.inr ⟨by rw[HR.out];decide,by rw[HR.out];rfl⟩⟩
attribute [local go_sem ↓] Go.wp_at_zero Go.wp_at_succ
theorem RB (w:World) (b o n c b2 c2:Nat) (es es2:List El) (L P:List Rat) (hO:jo w b es L) (hQ:jo w b2 es2 P) (hbb:b2≠b) (hn0:0<n) (hn:o+n=L.length) (hn2:o+n=P.length) (hc1:n≤c) (hc2:c≤9223372036854775807) (_hd1:n≤c2) (_hd2:c2≤9223372036854775807) (hok:Qy o L P):
  Calls Tryz.prog 203 #[.iface 172 (.agg #[]),.slice (some ⟨b,o*3,none⟩) n c,.slice (some ⟨b2,o*3,none⟩) n c2] w fun e w'=>
   e = .returned (.tuple #[])∧(∃es',jo w' b es' (zW o n L P))∧jh b w w':=by
 have hZ:=Zq;have hZn:=WJ;have hM:=WF;have hmn:=WG;have hT:=WI
 have hmf:∀(fn:Fn) (first cap:Array Value) (w:World),(Instr.makeFunc fn first cap).run Tryz.prog w = .ok (.func fn first cap) w:=fun _ _ _ _=>rfl
 have HOK:=hid hok;have HN:=hid hn;have HN2:=hid hn2;have HQl:=hid hQ.own.lt;obtain⟨e,B1,m1,k1,B2,m2,k2,zz0,hee,hrt,y0,y1,y2,zz1,zz2,zz3⟩:=hO.at_ (j:=o) (by omega);clear zz0 zz1 zz2 zz3;obtain⟨e0,ea,eb⟩:=e
 have hea:ea = .slice B1 m1 k1∧eb = .slice B2 m2 k2:=by simpa using hee
 obtain⟨rfl,rfl⟩:=hea;clear hee;unfold kX at hrt;dsimp only at hrt y0;have hbl:=hO.own.lt;have hal:Below w.heap.size w (w.alloc (.cells #[.bool e0,.slice B1 m1 k1,.slice B2 m2 k2] 122)):=(Below.refl _ _).alloc (Nat.le_refl _) _;have hF1:=ja.make w 122 [.bool e0,.slice B1 m1 k1,.slice B2 m2 k2]
 obtain⟨F0,hF0⟩:∃f,L[o]?.getD 0=f:=⟨_,rfl⟩
 have HC:Hid (zW o n L P=if F0=0 then L else qR 0 (yj F0) o n L P):=hid (by unfold zW;rw[hF0]);rw[hF0] at hrt;have HF0:=hid hF0;have HO:=hid hO;have HQ:=hid hQ;clear hO hQ hn hn2 hok hF0;go_enter Tryz.func203,Tryz.ntmps203
 go_wp2_with fail
 refine(KX _ F0 _ (hrt.below hal)).mono ?_;rintro ee w1 ⟨rfl,hB1⟩;have hB01:Below w.heap.size w w1:=hal.trans (hB1.mono hal.size);by_cases h0:F0=0
 ·have HR2:Hid (∃es',jo w1 b es' (zW o n L P)):=hid ⟨es,by rw[HC.out,if_pos h0];exact HO.out.below hB01⟩
  have HB2:=hid (jh.of_below (g:=b) hB01);rw[decide_eq_true h0];clear h0 hB01 hB1 hal hF1 y0 y1 y2 hrt
  go_wp2
  (try simp only[Exit.inBlock,Exit.then]);refine bodyPost_ret (results_none rfl _ _ _) rfl ?_
  exact⟨rfl,HR2.out,HB2.out⟩
 ·have HC2:Hid (zW o n L P=qR 0 (yj F0) o n L P):=hid (by rw[HC.out,if_neg h0])
  rw[decide_eq_false h0];have HFx:=hid (hF1.below hB1 (by simp));have HFr:=hid (hrt.below hB01);have HR0:Hid (∃es',jo w1 b es' (qR 0 (yj F0) o 0 L P)):=hid ⟨es,by rw[FY];exact HO.out.below hB01⟩;have HQ0:=hid (HQ.out.below hB01);have HB0:=hid (jh.of_below (g:=b) hB01);clear h0 hB01 hB1 hal hF1 y0 y1 y2 hrt HC
  go_wp2_with fail
  go_loopg [17] n (fun gh i wr=>∃k:Nat,i = .int .i64 k∧k+gh=n∧Hid (∃es',jo wr b es' (qR 0 (yj F0) o k L P))∧Hid (jo wr b2 es2 P)∧Hid (jh b w wr)∧Hid (ja wr w.heap.size 122 [.bool e0,.slice B1 m1 k1,.slice B2 m2 k2])∧Hid (Rt wr (.agg #[.bool e0,.slice B1 m1 k1,.slice B2 m2 k2]) F0))
  case atStart=>exact⟨0,rfl,by omega,HR0,HQ0,HB0,HFx,HFr⟩
  case round=>
   clear HR0 HQ0 HB0 HFx HFr;obtain⟨k,rfl,hk,hR,hP,hB,hX,hFv⟩:=hrel
   cases gk with
   | zero=>
    have hin:¬((k:Int)<(n:Int)):=by omega
    have hkn:k=n:=by omega
    have HR3:Hid (∃es',jo wr b es' (zW o n L P)):=hid (by rw[HC2.out,←hkn];exact hR.out);clear hkn hk hR hP hX hFv
    go_wp2
    go_end0
    exact⟨rfl,HR3.out,hB.out⟩
   | succ gh=>
    have hlt:k<n:=by omega
    have hlt':(k:Int)<(n:Int):=by omega
    obtain⟨es1,hR1⟩:=hR.out
    have hol:o+k<L.length:=by have:=HN.out;omega
    obtain⟨e,C1,l1,d1,C2,l2,d2,he,hee,hrt,y0,y1,y2,z0,z1,z2⟩:=hR1.at_ (j:=o+k) (by rw[Z0];exact hol);rw[Mo] at hrt;obtain⟨ex,D1,j1,f1,D2,j2,f2,hex,heex,hrtx,u0,u1,u2,zz1,zz2,zz3⟩:=hP.out.at_ (j:=o+k) (by have:=HN2.out;omega);clear zz1 zz2 zz3;rw[Nat.add_mul] at y0 y1 y2 z0 z1 z2 u0 u1 u2;obtain⟨s3,ea,eb⟩:=e
    have hea:ea = .slice C1 l1 d1∧eb = .slice C2 l2 d2:=by simpa using hee
    obtain⟨rfl,rfl⟩:=hea;obtain⟨s4,ec,ed⟩:=ex
    have hec:ec = .slice D1 j1 f1∧ed = .slice D2 j2 f2:=by simpa using heex
    obtain⟨rfl,rfl⟩:=hec;clear hee heex he hex;unfold kX at hrt hrtx;dsimp only at hrt y0 hrtx u0
    have hy:L[o+k]? =some (L[o+k]?.getD 0):=by rw[List.getElem?_eq_getElem hol];rfl
    have hfx:=HOK.out.2 (o+k) (by omega) hol;rw[HF0.out] at hfx;have Hsame:=hid (FW 0 (yj F0) o k L P _ hy);have Hsucc:=hid (Mp 0 (yj F0) o k L P _ hy);have Hfx:=hid hfx;have Hk:=hid hk;have HR1:=hid hR1;have hbl1:=hR1.own.lt;have hPl:=hP.out.own.lt;clear hy hol hfx hk hR1 hR;generalize L[o+k]?.getD 0=y at *;generalize P[o+k]?.getD 0=x at *;have hal:Below wr.heap.size wr (wr.alloc (.cells #[.bool s4,.slice D1 j1 f1,.slice D2 j2 f2] 122)):=(Below.refl _ _).alloc (Nat.le_refl _) _;have hXX:=ja.make wr 122 [.bool s4,.slice D1 j1 f1,.slice D2 j2 f2];have hXl:=hX.out.lt
    go_wp2_with fail
    refine(KX _ x _ (hrtx.below hal)).mono ?_;rintro ee w2 ⟨rfl,hB2⟩;have hB12:Below wr.heap.size wr w2:=hal.trans (hB2.mono hal.size);by_cases h1:x=0
    ·have HR2:Hid (∃es',jo w2 b es' (qR 0 (yj F0) o (k+1) L P)):=hid ⟨es1,by rw[Hsame.out (by unfold yj;rw[if_pos h1])];exact HR1.out.below hB12⟩
     have HB2:=hid (hB.out.below hB12);have HX2:=hid (hX.out.below hB12 hXl);have HD2:=hid (hFv.out.below hB12);have HP2:=hid (hP.out.below hB12);rw[decide_eq_true h1];clear h1 hB12 hB2 hal hXX y0 y1 y2 z0 z1 z2 u0 u1 u2 HR1 hB hX hFv hrt hrtx hXl hP
     go_wp2
     go_roundg gh
     case rel=>exact⟨k+1,by go_num,by have:=Hk.out;omega,HR2,HP2,HB2,HX2,HD2⟩
     case measure=>omega
    ·have Hv:Hid (yj F0 y x=y-F0*x):=hid (by unfold yj;rw[if_neg h1])
     rw[decide_eq_false h1];have hX2:=hX.out.below hB12 hXl;have hXX2:=hXX.below hB2 (by simp);obtain⟨a0,a1,a2,zz1,zz2,zz3⟩:=hX2.three;clear zz1 zz2 zz3;obtain⟨b0,b1,b2',zz1,zz2,zz3⟩:=hXX2.three;clear zz1 zz2 zz3;have g0:=(hB12.cell (p:=⟨b,o*3+k*3,none⟩) hbl1).trans y0;have g1:=(hB12.cell (p:=⟨b,o*3+k*3+1,none⟩) hbl1).trans y1;have g2:=(hB12.cell (p:=⟨b,o*3+k*3+2,none⟩) hbl1).trans y2;have i0:=(hB12.frozen (p:=⟨b,o*3+k*3,none⟩) hbl1).trans z0;have i1:=(hB12.frozen (p:=⟨b,o*3+k*3+1,none⟩) hbl1).trans z1;have i2:=(hB12.frozen (p:=⟨b,o*3+k*3+2,none⟩) hbl1).trans z2;have hb2l:b<w2.heap.size:=Nat.lt_of_lt_of_le hbl1 hB12.size;have hX2l:=hX2.lt;have hXX2l:=hXX2.lt;have FX:=hid (hFv.out.below hB12);have XX:=hid (hrtx.below hB12);have YY:=hid (hrt.below hB12);have TM:=hid (fun (W:World) (h:Rt W (.agg #[.bool e0,.slice B1 m1 k1,.slice B2 m2 k2]) F0) (h':Rt W (.agg #[.bool s4,.slice D1 j1 f1,.slice D2 j2 f2]) x)=>Gl _ _ F0 x W h h' (by have:=HOK.out.1.1;rw[HF0.out] at this;exact this) (by have:=HOK.out.1.2;rw[HF0.out] at this;exact this) Hfx.out.1.1 Hfx.out.1.2);have MN:=hid (fun (W:World) (u:Value) (h:Rt W (.agg #[.bool s3,.slice C1 l1 d1,.slice C2 l2 d2]) y) (h':Rt W u (F0*x))=>Gk _ u y (F0*x) W h h' Hfx.out.2);have HB12:=hid hB12;clear h1 hB12 hB2 hal hXX y0 y1 y2 z0 z1 z2 u0 u1 u2 hX2 hXX2 hrt hrtx
     go_wp2_with fail
     go_region_with (first
      | (go_at_call 318;refine(TM.out _ (FX.out.below (Below.refl _ _).drew) (XX.out.below (Below.refl _ _).drew)).mono ?_;rintro ee w3 ⟨tv,rfl,htv,hB3⟩;obtain⟨s5,A5,n5,c5,A6,n6,c6,rfl⟩:=htv.shape;have q0:=(hB3.cell (p:=⟨b,o*3+k*3,none⟩) hb2l).trans g0;have q1:=(hB3.cell (p:=⟨b,o*3+k*3+1,none⟩) hb2l).trans g1;have q2:=(hB3.cell (p:=⟨b,o*3+k*3+2,none⟩) hb2l).trans g2;have r0:=(hB3.frozen (p:=⟨b,o*3+k*3,none⟩) hb2l).trans i0;have r1:=(hB3.frozen (p:=⟨b,o*3+k*3+1,none⟩) hb2l).trans i1;have r2:=(hB3.frozen (p:=⟨b,o*3+k*3+2,none⟩) hb2l).trans i2;have hb3l:b<w3.heap.size:=Nat.lt_of_lt_of_le hb2l hB3.size;have HT3:=hid htv;have HB3:=hid hB3;clear htv hB3)
      | (go_at_call 315;refine(MN.out _ _ (YY.out.below (xn HB3.out)) HT3.out).mono ?_;rintro ee w4 ⟨mv,rfl,hmv,hB4⟩;obtain⟨s7,A7,n7,c7,A8,n8,c8,rfl⟩:=hmv.shape;have v0:=(hB4.cell (p:=⟨b,o*3+k*3,none⟩) hb3l).trans q0;have v1:=(hB4.cell (p:=⟨b,o*3+k*3+1,none⟩) hb3l).trans q1;have v2:=(hB4.cell (p:=⟨b,o*3+k*3+2,none⟩) hb3l).trans q2;have x0:=(hB4.frozen (p:=⟨b,o*3+k*3,none⟩) hb3l).trans r0;have x1:=(hB4.frozen (p:=⟨b,o*3+k*3+1,none⟩) hb3l).trans r1;have x2:=(hB4.frozen (p:=⟨b,o*3+k*3+2,none⟩) hb3l).trans r2;have HM4:=hid hmv;have HB4:=hid hB4;clear hmv hB4))
     all_goals (
      have HB14:Hid (Below wr.heap.size wr w4):=hid ((HB12.out.trans ((xn HB3.out).mono HB12.out.size)).trans (HB4.out.mono (Nat.le_trans HB12.out.size HB3.out.size)));have HPt:=hid ((HR1.out.below HB14.out).put (j:=o+k) (e:=(s7,.slice A7 n7 c7,.slice A8 n8 c8)) (q:=y-F0*x) (by rw[Z0];have:=HN.out;omega) HM4.out);rw[Nat.add_mul,←Hv.out,Hsucc.out] at HPt;dsimp only at HPt;have HBt:=hid ((hB.out.below HB14.out).trans (jh.set3 w4 b (o*3+k*3) (.bool s7) (.slice A7 n7 c7) (.slice A8 n8 c8)))
      have hne:w.heap.size≠b:=fun e=>by have:=HO.out.own.lt;omega
      have HXt:=hid ((hX.out.below HB14.out hXl).but (jh.set3 w4 b (o*3+k*3) (.bool s7) (.slice A7 n7 c7) (.slice A8 n8 c8)) hne);have HFt:=hid ((hFv.out.below HB14.out).stay (HR1.out.below HB14.out).own (HR1.out.below HB14.out).noInt (jh.set3 w4 b (o*3+k*3) (.bool s7) (.slice A7 n7 c7) (.slice A8 n8 c8)));have HQt:=hid ((hP.out.below HB14.out).stay (HR1.out.below HB14.out).own (HR1.out.below HB14.out).noInt (jh.set3 w4 b (o*3+k*3) (.bool s7) (.slice A7 n7 c7) (.slice A8 n8 c8)) hbb);clear a0 a1 a2 b0 b1 b2' g0 g1 g2 i0 i1 i2 q0 q1 q2 r0 r1 r2 v0 v1 v2 x0 x1 x2 HM4 HT3 HB3 HB4 TM MN FX XX YY HB14 hX hFv hB hP HR1 hne
      go_wp2
      go_roundg gh
      case rel=>exact⟨k+1,by go_num,by have:=Hk.out;omega,hid ⟨_,HPt.out⟩,HQt,HBt,HXt,HFt⟩
      case measure=>omega)
