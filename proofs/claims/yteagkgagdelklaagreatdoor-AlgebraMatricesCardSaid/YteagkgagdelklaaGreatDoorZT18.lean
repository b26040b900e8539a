/- Contract: eliminate over the residues. -/
import Derived.Test.YteagkgagdelklaaGreatDoorZT17
set_option maxRecDepth 100000
set_option maxHeartbeats 4000000
namespace Go.Proofs.YteagkgagdelklaaGreatDoor
open Go.RowKit
def jm (L:List Nat):List Value:=L.map fun (x:Nat)=>Value.int .i64 (x:Int)
theorem x7 (L:List Nat) (x:Nat):jm (L++[x])=jm L++[.int .i64 (x:Int)]:=by simp[jm]
theorem Ao (L:List Int) (x:Int):je (L++[x])=je L++[.int .i64 x]:=by simp[je]
theorem AA:(Tryz.prog.info? 2).map (fun i=>(i.zero,i.size,i.bytes))=some (some (.int .i64 0),1,8):=by kernel_rfl
abbrev jn:Value:= .slice none 0 0
structure zT (p:Int) (n g:Nat) (R:List jS) (w wr:World) (S:jw Int) (fr:Nat) (cv pv:Value):Prop where
 mx:kj wr g S.rows n
 out:ja wr w.heap.size 171 [jn,jn,jn,.bool false]
 res:ja wr (w.heap.size+1) 171 [jn,cv,pv,.bool S.odd]
 cown:wr.ownsRow (w.heap.size+2) 3 1 cv S.cols.length (jm S.cols)
 pown:wr.ownsRow (w.heap.size+2) 2 1 pv S.piv.length (je S.piv)
 same:S.piv.length=S.cols.length
 len:S.rows.length=R.length
 perm:List.Perm (S.rows.map (·.1)) (R.map (·.1))
 inp:yg p S.rows
 hfr:fr≤n
 go:jy (jE p) n (R.length-S.cols.length) fr S=jy (jE p) n R.length 0 ⟨R,[],[],false⟩
 buts:jO (g::R.map (·.1)) w wr
def Zr (p:Int) (n g c:Nat) (R:List jS) (w:World) (e:Ending) (w':World):Prop:=
 ∃S,S=jy (jE p) n R.length 0 ⟨R,[],[],false⟩ ∧ ∃cv pv,e = .returned (.agg #[.slice (some ⟨g,0,none⟩) S.piv.length c,cv,pv,.bool S.odd]) ∧
  kj w' g S.rows n∧w'.ownsRow w.heap.size 3 1 cv S.cols.length (jm S.cols)∧w'.ownsRow w.heap.size 2 1 pv S.piv.length (je S.piv) ∧
  S.piv.length=S.cols.length∧S.piv.length≤S.rows.length∧S.rows.length=R.length∧List.Perm (S.rows.map (·.1)) (R.map (·.1))∧yg p S.rows∧jO (g::R.map (·.1)) w w'
theorem jO.belowAt {s:List Nat} {a b c:World} (h:jO s a b) (k:Below a.heap.size b c):jO s a c:=
 ⟨k.os.trans h.os,k.tape.trans h.tape,k.output.trans h.output,Qap h.size k.size,fun i hi hs=>(k.block i hi).trans (h.block i hi hs)⟩
theorem zJ {w:World} {base base':Nat} {e:TypeId} {size:Nat} {v:Value} {n:Nat} {xs:List Value} (h:w.ownsRow base e size v n xs) (hb:base'≤base):w.ownsRow base' e size v n xs:=by
 refine⟨h.1,?_⟩
 rcases h.2 with hn | ⟨g,cap,cur,h1,h2,rest⟩
 ·exact .inl hn
 ·exact .inr ⟨g,cap,cur,h1,Qap hb h2,rest⟩
theorem zT.below {p:Int} {n g:Nat} {R:List jS} {w wr w1:World} {S:jw Int} {fr:Nat} {cv pv:Value} (h:zT p n g R w wr S fr cv pv) (hb:Below wr.heap.size wr w1):zT p n g R w w1 S fr cv pv:=
 ⟨h.mx.below hb,h.out.below hb h.out.lt,h.res.below hb h.res.lt,kD h.cown hb,kD h.pown hb,h.same,h.len,h.perm,h.inp,h.hfr,h.go,h.buts.below hb⟩
theorem V8 {T:Type} {F:Fd T} {n k fr:Nat} {S:jw T} (hk:0<k) (h:kK F S.rows S.cols.length (n-fr) fr=none):jy F n k fr S=S:=by
 obtain⟨j,rfl⟩:∃j,k=j+1:=⟨k-1,by omega⟩
 unfold jy;rw[h]
theorem Zo {T:Type} {F:Fd T} {n k fr row col:Nat} {S:jw T} (h:kK F S.rows S.cols.length (n-fr) fr=some (row,col)):jy F n (k+1) fr S=jy F n k (col+1) (kg F row col S):=by
 conv=>lhs;unfold jy
 rw[h]
theorem Yk {p:Int} {R:List jS} {i j:Nat} :(jE p).isZ (jC (jE p) R i j)=(Je R i j==0):=rfl
structure kL (p:Int) (n g:Nat) (R:List jS) (w wr:World) (C:List Nat) (V:List Int) (Q:List jS) (odd:Bool) (cv pv:Value):Prop where
 mx:kj wr g Q n
 out:ja wr w.heap.size 171 [jn,jn,jn,.bool false]
 res:ja wr (w.heap.size+1) 171 [jn,cv,pv,.bool odd]
 cown:wr.ownsRow (w.heap.size+2) 3 1 cv C.length (jm C)
 pown:wr.ownsRow (w.heap.size+2) 2 1 pv V.length (je V)
 len:Q.length=R.length
 perm:List.Perm (Q.map (·.1)) (R.map (·.1))
 inp:yg p Q
 lt:∀k,k=g∨k∈R.map (·.1)→k<w.heap.size
 buts:jO (g::R.map (·.1)) w wr
section
variable {p:Int} {n g:Nat} {R Q:List jS} {w w1 w2:World} {S:jw Int} {C:List Nat} {V:List Int} {fr i:Nat} {odd:Bool} {cv pv:Value}
theorem zT.mid (HM:kj w g R n) (h:zT p n g R w w1 S fr cv pv):kL p n g R w w1 S.cols S.piv S.rows S.odd cv pv:=
 ⟨h.mx,h.out,h.res,h.cown,h.pown,h.len,h.perm,h.inp,fun _ hk=>HM.lt hk,h.buts⟩
theorem kL.swap (h:kL p n g R w w1 C V Q odd cv pv) {i j:Nat} {a b:jS} (hi:Q[i]? =some a) (hj:Q[j]? =some b):
  kL p n g R w (((w1.setCell ⟨g,i,none⟩ (qL n b)).setCell ⟨g,j,none⟩ (qL n a)).drew) C V (kU Q i j) odd cv pv:=by
 have hg:=h.lt g (.inl rfl);refine⟨(h.mx.swap hi hj).keep (fun _ _=>rfl),?_,?_,?_,?_,by rw[QZ,h.len],((K4 Q i j).map _).trans h.perm,h.inp.swap i j,h.lt,(((h.buts.setCell _ (by simp) _).setCell _ (by simp) _).drew)⟩
 ·exact(h.out.other (p:=⟨g,i,none⟩) (fun e=>by simp at e;omega) _).other (p:=⟨g,j,none⟩) (fun e=>by simp at e;omega) _
 ·exact(h.res.other (p:=⟨g,i,none⟩) (fun e=>by simp at e;omega) _).other (p:=⟨g,j,none⟩) (fun e=>by simp at e;omega) _
 ·exact xP (xP h.cown ⟨g,i,none⟩ (by simp;omega) _) ⟨g,j,none⟩ (by simp;omega) _
 ·exact xP (xP h.pown ⟨g,i,none⟩ (by simp;omega) _) ⟨g,j,none⟩ (by simp;omega) _
theorem kL.setOdd (h:kL p n g R w w1 C V Q odd cv pv) (b:Bool):kL p n g R w (w1.setCell ⟨w.heap.size+1,3,none⟩ (.bool b)) C V Q b cv pv:=by
 refine⟨h.mx.keep (fun k hk=>Below.heap_setCell _ _ _ _ (by
   have:=h.lt k (hk.imp id fun x=>h.perm.mem_iff.1 x);simp;omega)),h.out.other (p:=⟨w.heap.size+1,3,none⟩) (fun e=>by simp at e) _,?_,xP h.cown ⟨w.heap.size+1,3,none⟩ (by simp) _,xP h.pown ⟨w.heap.size+1,3,none⟩ (by simp) _,h.len,h.perm,h.inp,h.lt,h.buts.setNew _ (by simp) _⟩
 have:=h.res.put 3 (.bool b);exact this
theorem kL.below (h:kL p n g R w w1 C V Q odd cv pv) (hb:Below w1.heap.size w1 w2):kL p n g R w w2 C V Q odd cv pv:=
 ⟨h.mx.below hb,h.out.below hb h.out.lt,h.res.below hb h.res.lt,kD h.cown hb,kD h.pown hb,h.len,h.perm,h.inp,h.lt,h.buts.below hb⟩
theorem kL.setRow (h:kL p n g R w w1 C V Q odd cv pv) {r:jS} (hr:Q[i]? =some r) {L:List Int} (hO:ja w2 r.1 2 (je L)) (hl:L.length=n) (hL:∀x∈L,0≤x∧x<p) (hb:jk r.1 w1 w2):
  kL p n g R w w2 C V (setRow Q i L) odd cv pv:=by
 have hrb:r.1∈R.map (·.1):=h.perm.mem_iff.1 (Qa1 (Qab hr));have hlt:=h.lt r.1 (.inr hrb);exact⟨h.mx.setRow hr hO hl hb,h.out.but hb (by omega),h.res.but hb (by omega),QF h.cown hb (by omega),QF h.pown hb (by omega),by rw[Ke];exact h.len,by rw[Kd];exact h.perm,h.inp.set i hL,h.lt,h.buts.but hb (QbU _ hrb)⟩
theorem Y5 {B:Nat} {a:World} {e e':TypeId} {v v':Value} {n n':Nat} {xs xs':List Value} (h:a.ownsRow B e 1 v n xs) (h':a.ownsRow B e' 1 v' n' xs') (hee:e≠e') (k:Nat) (hk:v.ownBlock=some k):v'.ownBlock≠some k:=by
 intro hk'
 rcases h.2 with ⟨rfl,_⟩ | ⟨g,cap,cur,rfl,_,hg,_⟩
 ·simp[Value.ownBlock] at hk
 ·rcases h'.2 with ⟨rfl,_⟩ | ⟨g',cap',cur',rfl,_,hg',_⟩
  ·simp[Value.ownBlock] at hk'
  ·simp[Value.ownBlock] at hk hk'
   subst hk hk';rw[hg] at hg'
   injection hg' with hg'
   injection hg' with _ hg'
   exact hee hg'
theorem kL.addCol (h:kL p n g R w w1 C V Q odd cv pv) {o:Obj} {v5:Value} {j:Nat} (hown:w2.ownsRow (w.heap.size+2) 3 1 v5 (C.length+1) (jm C++[.int .i64 (j:Int)])) (hg:(w1.alloc o).grownBy w2 cv.ownBlock):
  ja w2 (w.heap.size+1) 171 [jn,cv,pv,.bool odd]∧kL p n g R w (w2.setCell ⟨w.heap.size+1,1,none⟩ v5) (C++[j]) V Q odd v5 pv:=by
 have ha:Below w1.heap.size w1 (w1.alloc o):=(Below.refl _ _).alloc (Nat.le_refl _) _;have hm:=h.below ha
 have hcv:∀k,cv.ownBlock=some k→w.heap.size+2≤k:=fun k hk=>(hm.cown.lt k hk).1
 have hX:=hm.res.grown hg (fun e=>by have:=hcv _ e;omega);have hlt:=h.lt;refine⟨hX,hm.mx.keep (fun k hk=> ?_),?_,hX.put 1 v5,?_,?_,h.len,h.perm,h.inp,h.lt,(hm.buts.grown hg (fun k hk=>by have:=hcv k hk;omega)).setNew _ (by simp) _⟩
 ·have hk':=h.lt k (hk.imp id fun x=>h.perm.mem_iff.1 x)
  exact(Below.heap_setCell _ _ _ _ (by simp;omega)).trans (hg.block k (by have:=hm.res.lt;omega) (fun e=>by have:=hcv k e.symm;omega))
 ·exact(hm.out.grown hg (fun e=>by have:=hcv _ e;omega)).other (p:=⟨w.heap.size+1,1,none⟩) (fun e=>by simp at e) _
 ·rw[x7,Qaf]
  exact xP hown ⟨w.heap.size+1,1,none⟩ (by simp) _
 ·refine xP (hm.pown.kept hg ?_) ⟨w.heap.size+1,1,none⟩ (by simp) _
  cases hp:pv.ownBlock with
  | none=>exact .inl rfl
  | some k=>exact .inr (fun e=>Y5 hm.pown hm.cown (by decide) k hp e.symm)
theorem kL.addPiv (h:kL p n g R w w1 C V Q odd cv pv) {o:Obj} {v5:Value} {x:Int} (hown:w2.ownsRow (w.heap.size+2) 2 1 v5 (V.length+1) (je V++[.int .i64 x])) (hg:(w1.alloc o).grownBy w2 pv.ownBlock):
  ja w2 (w.heap.size+1) 171 [jn,cv,pv,.bool odd]∧kL p n g R w (w2.setCell ⟨w.heap.size+1,2,none⟩ v5) C (V++[x]) Q odd cv v5:=by
 have ha:Below w1.heap.size w1 (w1.alloc o):=(Below.refl _ _).alloc (Nat.le_refl _) _;have hm:=h.below ha
 have hcv:∀k,pv.ownBlock=some k→w.heap.size+2≤k:=fun k hk=>(hm.pown.lt k hk).1
 have hX:=hm.res.grown hg (fun e=>by have:=hcv _ e;omega);have hlt:=h.lt;refine⟨hX,hm.mx.keep (fun k hk=> ?_),?_,hX.put 2 v5,?_,?_,h.len,h.perm,h.inp,h.lt,(hm.buts.grown hg (fun k hk=>by have:=hcv k hk;omega)).setNew _ (by simp) _⟩
 ·have hk':=h.lt k (hk.imp id fun x=>h.perm.mem_iff.1 x)
  exact(Below.heap_setCell _ _ _ _ (by simp;omega)).trans (hg.block k (by have:=hm.res.lt;omega) (fun e=>by have:=hcv k e.symm;omega))
 ·exact(hm.out.grown hg (fun e=>by have:=hcv _ e;omega)).other (p:=⟨w.heap.size+1,2,none⟩) (fun e=>by simp at e) _
 ·refine xP (hm.cown.kept hg ?_) ⟨w.heap.size+1,2,none⟩ (by simp) _
  cases hp:cv.ownBlock with
  | none=>exact .inl rfl
  | some k=>exact .inr (fun e=>Y5 hm.cown hm.pown (by decide) k hp e.symm)
 ·rw[Ao,Qaf]
  exact xP hown ⟨w.heap.size+1,2,none⟩ (by simp) _
theorem XL {T:Type} {F:Fd T} {S:jw T} {Q:List (jR T)} {i j m ib ic:Nat} {il:List T} {x:T} {odd:Bool} (hQ:j8 i S=Q) (hr:Q[S.cols.length]? =some (ib,ic,il)) (hx:il[j]?.getD F.z=x) (ho:(if i=S.cols.length then S.odd else !S.odd)=odd) (hm:Q.length=m):
  kg F i j S=⟨jY F S.cols.length j (j3 F x j il) (setRow Q S.cols.length (j3 F x j il)) m,S.cols++[j],S.piv++[x],odd⟩:=by
 have e1:elPiv F i j S=x:=by unfold elPiv jC;rw[hQ,qF hr];exact hx
 have e2:elDiv F i j S=setRow Q S.cols.length (j3 F x j il):=by unfold elDiv;rw[e1,hQ,qF hr]
 have e3:jL (elDiv F i j S) S.cols.length=j3 F x j il:=by rw[e2,qF (qG hr _)]
 unfold kg;rw[e3,e1,e2,ho,Ke,hm]
theorem kL.inv {wf:World} {i j:Nat} {Q':List jS} {x:Int} (h:kL p n g R w wf (S.cols++[j]) (S.piv++[x]) Q' odd cv pv) (hS:kg (jE p) i j S=⟨Q',S.cols++[j],S.piv++[x],odd⟩) (hs:S.piv.length=S.cols.length) (hj:j<n) (hl:S.cols.length<R.length)
  (hp:kK (jE p) S.rows S.cols.length (n-fr) fr=some (i,j)) (hgo:jy (jE p) n (R.length-S.cols.length) fr S=jy (jE p) n R.length 0 ⟨R,[],[],false⟩):zT p n g R w wf (kg (jE p) i j S) (j+1) cv pv:=by
 have hgo':jy (jE p) n (R.length-(S.cols++[j]).length) (j+1) (kg (jE p) i j S)=jy (jE p) n R.length 0 ⟨R,[],[],false⟩:=by
  rw[←hgo,show R.length-S.cols.length=(R.length-(S.cols++[j]).length)+1 by simp;omega,Zo hp]
 rw[hS] at hgo' ⊢;exact⟨h.mx,h.out,h.res,h.cown,h.pown,by simp[hs],h.len,h.perm,h.inp,hj,hgo',h.buts⟩
theorem jk.dr' {g:Nat} {a b:World} (h:jk g a.drew b):jk g a b:=⟨h.os,h.tape,h.output,h.size,h.block⟩
end
theorem V5 {p:Int} {n g c:Nat} {R:List jS} {w wr wf:World} {S:jw Int} {fr:Nat} {cv pv:Value} {e:Ending} (HM:kj w g R n) (hE:zT p n g R w wr S fr cv pv) (hS:S.cols.length≤R.length)
  (hgo:S=jy (jE p) n R.length 0 ⟨R,[],[],false⟩) (hB:Below w.heap.size wr wf) (h2:∀k,w.heap.size+2≤k→wf.heap[k]? =wr.heap[k]?) (he:e = .returned (.agg #[.slice (some ⟨g,0,none⟩) S.piv.length c,cv,pv,.bool S.odd])):Zr p n g c R w e wf:=by
 have hlt:∀k,k=g∨k∈S.rows.map (·.1)→k<w.heap.size:=fun k hk=>HM.lt (hk.imp id fun h=>hE.perm.mem_iff.1 h)
 refine⟨S,hgo,cv,pv,he,hE.mx.keep (fun k hk=>hB.block k (hlt k hk)),?_,?_,hE.same,?_,hE.len,hE.perm,hE.inp,hE.buts.belowAt hB⟩
 ·exact zJ (xt hE.cown fun k _ hv=>h2 k (hE.cown.lt k hv).1) (by omega)
 ·exact zJ (xt hE.pown fun k _ hv=>h2 k (hE.pown.lt k hv).1) (by omega)
 ·rw[hE.same,hE.len];exact hS
theorem Dq (p:Int) (g c n:Nat) (R:List jS) (w:World) (hM:kj w g R n) (hc:R.length≤c) (hc2:c≤1000000) (hn:n≤1000000) (hp:PF p) (hI:yg p R):
  Calls Tryz.prog 114 #[.iface 117 (.agg #[.int .i64 p]),.slice (some ⟨g,0,none⟩) R.length c] w (Zr p n g c R w):=by
 have HM:=Lib.hid hM;have HI:=Lib.hid hI;have HP:=Lib.hid hp;clear hM hI hp;obtain⟨i0,hi0,hz0,hz1,hz2⟩:=info_parts zd;obtain⟨j0,hj0,hw0,hw1,hw2⟩:=info_parts AA;go_enter Tryz.func114,Tryz.ntmps114
 go_wp2_with fail
 go_loopg [6,17] R.length (fun gh f i wr=>∃(S:jw Int) (fr:Nat) (cv pv:Value),f = .int .i64 fr∧i = .int .i64 (S.cols.length:Nat)∧S.cols.length+gh=R.length∧Hid (zT p n g R w wr S fr cv pv))
 case atStart=>
  refine⟨⟨R,[],[],false⟩,0,jn,jn,rfl,rfl,by simp,Lib.hid ?_⟩;have hb:Below w.heap.size w ((w.alloc (.cells #[jn,jn,jn,.bool false] 171)).alloc (.cells #[jn,jn,jn,.bool false] 171)):=((Below.refl _ _).alloc (Nat.le_refl _) _).alloc (by simp) _;exact⟨HM.out.below hb,(ja.make w _ [jn,jn,jn,.bool false]).alloc _,by have:=ja.make (w.alloc (.cells #[jn,jn,jn,.bool false] 171)) 171 [jn,jn,jn,.bool false];simpa using this,World.ownsRow_nil _ _ _ _,World.ownsRow_nil _ _ _ _,rfl,rfl,List.Perm.refl _,HI.out,by omega,rfl,jO.of_below hb⟩
 case round=>
  obtain⟨S,fr,cv,pv,rfl,rfl,hk,hE⟩:=hrel
  cases gk with
  | zero=>
   have hin:¬((S.cols.length:Int)<(R.length:Int)):=by omega
   have hgo:Hid (S=jy (jE p) n R.length 0 ⟨R,[],[],false⟩):=Lib.hid (by
    have h:=hE.out.go;rw[show R.length-S.cols.length=0 by omega] at h
    exact h)
   obtain⟨A1,k1,hcv,_,_⟩:=jX hE.out.cown;obtain⟨A2,k2,hpv,hk2,_⟩:=jX hE.out.pown
   have hpl:S.piv.length≤c:=by rw[hE.out.same];omega
   obtain⟨x0,x1,x2,x3,y0,y1,y2,y3⟩:=hE.out.res.four;obtain⟨z0,z1,z2,z3,v0,v1,v2,v3⟩:=hE.out.out.four;have hF:=Lib.hid (fun (wf:World) e h1 h2 h3=>V5 (c:=c) (wf:=wf) (e:=e) HM.out hE.out (by omega) hgo.out h1 h2 h3);subst hcv hpv;clear hE hgo
   go_wp2
   exact bodyPost_ret (v:= .agg #[.slice (some ⟨g,0,none⟩) S.piv.length c,.slice A1 S.cols.length k1,.slice A2 S.piv.length k2,.bool S.odd]) (by simp[results,Tryz.results114,go_sem,z0,z1,z2,z3]) rfl (hF.out _ _ (by
     exact((((((Below.refl w.heap.size wr).setCell (by simp) _).setCell (by simp) _).setCell (by simp) _).setCell (by simp) _).setCell (by simp) _))
    (fun k hk=>by simp only[World.setCell,QbH];rw[if_neg (by omega),if_neg (by omega),if_neg (by omega),if_neg (by omega),if_neg (by omega)]) rfl)
  | succ gh=>
   have hin:((S.cols.length:Int)<(R.length:Int)):=by omega
   have hlt:S.cols.length<R.length:=by omega
   have Hk:=Lib.hid hk;clear hk
   have NP:Hid (Calls Tryz.prog 148 #[.iface 117 (.agg #[.int .i64 p]),.slice (some ⟨g,0,none⟩) R.length c,.int .i64 (S.cols.length:Nat),.int .i64 fr] wr (GZ S.rows n S.cols.length fr wr)):=Lib.hid (by
    have h:=Cs p g c n S.rows wr S.cols.length fr hE.out.mx (by intro e;have:=hE.out.len;rw[e] at this;simp at this;omega) (by rw[hE.out.len];exact hc) hc2 (by rw[hE.out.len];omega) hE.out.hfr hn;rw[hE.out.len] at h
    exact h)
   go_wp2_with fail
   refine NP.out.mono ?_;clear NP;rintro e w1 ⟨hB1,h⟩;have hE1:Hid (zT p n g R w w1 S fr cv pv):=Lib.hid (hE.out.below hB1)
   rcases h with ⟨i,j,rfl,hi1,hi2,hj1,hj2,hnz,habove,hcl⟩ | ⟨i,j,rfl,hcl⟩
   ·clear hE
    have hE:=hE1;clear hE1 hB1;have hil:i<S.rows.length:=hi2
    obtain⟨ri,hri⟩:∃r,S.rows[i]? =some r:=⟨S.rows[i],Qaa hil⟩
    obtain⟨rt,hrt⟩:∃r,S.rows[S.cols.length]? =some r:=⟨S.rows[S.cols.length]'(by rw[hE.out.len];exact hlt),Qaa _⟩
    have hiR:i<R.length:=by rw[←hE.out.len];exact hil
    have Hsome:=Lib.hid (Uf (F:=jE p) (R:=S.rows) (n-fr) fr hj1 (by have:=hE.out.hfr;omega) hi1 hil (by rw[Yk];simpa using hnz) (fun t h1 h2=>by rw[Yk,habove t h1 h2];rfl) (fun c h1 h2 t h3 h4=>by rw[Yk,hcl c h1 h2 t h3 h4];rfl));have Hnz:Hid (ri.2.2[j]?.getD 0≠0):=Lib.hid (by rw[←GG hri];exact hnz);have HS:=Lib.hid hE.out.same;have Hgo:=Lib.hid hE.out.go;have HR:=Lib.hid (Eq.refl S.rows);clear habove hcl hnz;have HE:=Lib.hid (hE.out.mid HM.out);clear hE;by_cases hit:i=S.cols.length
    ·have hne:((i:Int)==(S.cols.length:Int))=true:=by simp;omega
     have HQ:Hid (j8 i S=S.rows):=Lib.hid (by unfold j8;rw[if_pos hit]);have HO:Hid ((if i=S.cols.length then S.odd else !S.odd)=S.odd):=Lib.hid (if_pos hit);have Hrow:Hid (S.rows[S.cols.length]? =some ri):=Lib.hid (hit ▸ hri);clear hri hrt hit hi2 hil;rw[←HQ.out] at Hrow HE;rw[←HO.out] at HE;clear HR HQ HO;generalize hQe:j8 i S=Q at *;have HQe:=Lib.hid hQe;clear hQe;obtain⟨ib,ic,il⟩:=ri;generalize hOe:(if i=S.cols.length then S.odd else !S.odd)=odd at *;have HOe:=Lib.hid hOe;clear hOe
     obtain⟨w3,rfl⟩:∃w3,w3=w1:=⟨_,rfl⟩
     go_upto_region 11 with fail
     have hcr:=HE.out.mx.cellRow Hrow.out;have hcx:=HE.out.mx.cellNum Hrow.out hj2;obtain⟨hro,hrl,hrc1,hrc2⟩:=HE.out.mx.row _ (Qab Hrow.out);have hin':=HE.out.inp _ (Qab Hrow.out);unfold qL at hcr;dsimp only at hcr hcx hro hrl hrc1 hrc2 hin';have hx:=hin' (il[j]?.getD 0) (by rw[Qaa (by omega)];exact Qay (by omega))
     have hx0:0<il[j]?.getD 0:=by have:=Hnz.out;omega
     have DV:=Lib.hid (VV p (il[j]?.getD 0) w3 ib j (n-j) (ic-j) il hro (by omega) (by omega) (by omega) HP.out hin' ⟨hx0,hx.2⟩);have hbl:=hro.lt;have hgl:=HE.out.mx.own.lt;have Hil:=Lib.hid hrl;clear hro hin' Hnz hx hx0 hrl;generalize hxe:il[j]?.getD 0=x at *;have Hxe:=Lib.hid hxe;clear hxe
     go_wp2_with fail
     refine DV.out.mono ?_;clear DV;rintro e w4 ⟨rfl,hO4,hB4⟩;rw[VT p x j (n-j) il (by have:=Hil.out;omega)] at hO4;have HE4:=Lib.hid (HE.out.setRow Hrow.out hO4 (by rw[Jz];exact Hil.out) (XG (by have:=HP.out.1;omega) x j (HE.out.inp _ (Qab Hrow.out))) hB4);clear hO4 hB4 hcr hcx hbl hgl hrc1 hrc2
     go_wp2_with fail
     have Hrow2:=Lib.hid (qG Hrow.out (j3 (jE p) x j il));have HL2:Hid ((j3 (jE p) x j il).length=n):=Lib.hid (by rw[Jz];exact Hil.out);have HSt:=Lib.hid (XL (F:=jE p) HQe.out Hrow.out Hxe.out HOe.out HE.out.len);have HinL:=Lib.hid (XG (by have:=HP.out.1;omega) x j (HE.out.inp _ (Qab Hrow.out)));clear HE Hrow Hxe HQe HOe Hil;generalize j3 (jE p) x j il=P at *;generalize setRow Q S.cols.length P=Q2 at *
     go_loopg [70] R.length (fun gh2 i wx=>∃k:Nat,i = .int .i64 k∧k+gh2=R.length∧Hid (kL p n g R w wx S.cols S.piv (jY (jE p) S.cols.length j P Q2 k) odd cv pv))
     case atStart=>exact⟨0,rfl,by omega,Lib.hid (by rw[Xz];exact HE4.out)⟩
     case round=>
      have HQl:Hid (Q2.length=R.length):=Lib.hid HE4.out.len;clear HE4;obtain⟨k,rfl,hkk,hE⟩:=hrel
      cases gk with
      | zero=>
       have hkR:k=R.length:=by omega
       have hkn:¬((k:Int)<(R.length:Int)):=by omega
       have hE5:Hid (kL p n g R w wr S.cols S.piv (jY (jE p) S.cols.length j P Q2 R.length) odd cv pv):=Lib.hid (by rw[←hkR];exact hE.out);clear hE hkk hkR;have hsz:=hE5.out.res.lt
       have hl1:S.piv.length<1000000:=by have:=HS.out;omega
       obtain⟨x0,x1,x2,x3,y0,y1,y2,y3⟩:=hE5.out.res.four
       go_upto_region 20 with (at_builtin;(refine wpList_append_own _ rfl _ _ 41 rfl (w.heap.size+2) 3 i0 (.int .i64 0) 1 8 Tryz.underlying41 hi0 hz0 hz1 hz2 rfl (by decide) _ _ _ rfl (hE5.out.cown.alloc _) ⟨wr.heap.size,0,none⟩ 1 1 [.int .i64 j] rfl rfl (cell_one_new _ _ _) (fun x hx=>by simp at hx;subst hx;rfl) (by unfold maxLen;omega) (by omega) (by simp;omega) ?_;intro v5 w5 hown5 hgrow5 _;obtain⟨A5,c5,rfl,_,_⟩:=jX hown5;have hA:=hE5.out.addCol hown5 hgrow5;have hXX:=hA.1.four;obtain⟨q0,q1,q2,q3,r0,r1,r2,r3⟩:=hXX;have HE6:=Lib.hid hA.2;clear hA hown5 hgrow5))
       obtain⟨w6,hw6⟩:∃w6,w6=w5.setCell ⟨w.heap.size+1,1,none⟩ (.slice A5 (S.cols.length+1) c5):=⟨_,rfl⟩
       rw[←hw6] at HE6;rw[←hw6];clear hw6 x0 x1 x2 x3 y0 y1 y2 y3 q0 q1 q2 q3 r0 r1 r2 r3 hE5 hsz;have hsz:=HE6.out.res.lt;obtain⟨x0,x1,x2,x3,y0,y1,y2,y3⟩:=HE6.out.res.four
       go_wp2_with (at_builtin;(refine wpList_append_own _ rfl _ _ 118 rfl (w.heap.size+2) 2 j0 (.int .i64 0) 1 8 Tryz.underlying118 hj0 hw0 hw1 hw2 rfl (by decide) _ _ _ rfl (HE6.out.pown.alloc _) ⟨w6.heap.size,0,none⟩ 1 1 [.int .i64 x] rfl rfl (cell_one_new _ _ _) (fun x hx=>by simp at hx;subst hx;rfl) (by unfold maxLen;omega) (by omega) (by simp;omega) ?_;intro v7 w7 hown7 hgrow7 _;obtain⟨A7,c7,rfl,_,_⟩:=jX hown7;have hA:=HE6.out.addPiv hown7 hgrow7;have hXX:=hA.1.four;obtain⟨q0,q1,q2,q3,r0,r1,r2,r3⟩:=hXX;have HE8:=Lib.hid hA.2;clear hA hown7 hgrow7))
       go_roundg gh
       case rel=>
        have hcl:(kg (jE p) i j S).cols=S.cols++[j]:=by rw[HSt.out]
        exact⟨kg (jE p) i j S,j+1,_,_,by go_num,by rw[hcl,Qaf];go_num,by rw[hcl,Qaf];have:=Hk.out;simp;omega,Lib.hid (HE8.out.inv HSt.out HS.out hj2 hlt Hsome.out Hgo.out)⟩
       case measure=>omega
      | succ gh2=>
       have hkl:k<R.length:=by omega
       have hkl':((k:Int)<(R.length:Int)):=by omega
       obtain⟨rk,hrk⟩:∃r,Q2[k]? =some r:=⟨Q2[k]'(by rw[HQl.out];exact hkl),Qaa _⟩
       have hrk':=(Ql (F:=jE p) (R:=Q2) (top:=S.cols.length) (o:=j) (P:=P) k).trans hrk;have hck:=hE.out.mx.cellRow hrk';have hgl:=hE.out.mx.own.lt;have Hkk:=Lib.hid hkk;clear hkk;by_cases hkt:k=S.cols.length
       ·have hkn:((k:Int)==(S.cols.length:Int))=true:=by simp;omega
        have hE':Hid (kL p n g R w wr S.cols S.piv (jY (jE p) S.cols.length j P Q2 (k+1)) odd cv pv):=Lib.hid (by rw[hkt,Xw];have:=hE.out;rw[hkt] at this;exact this);clear hE hkt hrk hrk';obtain⟨kb,kc,kl⟩:=rk;unfold qL at hck;dsimp only at hck
        go_wp2
        go_roundg gh2
        case rel=>exact⟨k+1,by go_num,by have:=Hkk.out;omega,hE'⟩
        case measure=>omega
       ·have hkn:((k:Int)==(S.cols.length:Int))=false:=by simp;omega
        obtain⟨hko,hkl2,hkc1,hkc2⟩:=hE.out.mx.row _ (Qab hrk');have htop:=(Xy (F:=jE p) (R:=Q2) (top:=S.cols.length) (o:=j) (P:=P) k).trans Hrow2.out;have hct:=hE.out.mx.cellRow htop;obtain⟨hto,htl2,htc1,htc2⟩:=hE.out.mx.row _ (Qab htop);have hbb:ib≠rk.1:=ZX hE.out.mx.apart htop hrk' (fun e=>hkt e.symm);have hkin:=hE.out.inp _ (Qab hrk');have Hsu:=Lib.hid (Xx (F:=jE p) (top:=S.cols.length) (o:=j) (P:=P) hkt hrk);obtain⟨kb,kc,kl⟩:=rk;unfold qL at hck hct;dsimp only at hck hct hko hkl2 hkc1 hkc2 hto htl2 htc1 htc2 hbb hkin;have CL:=Lib.hid (Vy p wr.drew kb j (n-j) (kc-j) ib j (ic-j) kl P hko hto hbb (by omega) (by omega) (by omega) (by omega) (by omega) (by omega) (by omega) HP.out hkin HinL.out);have hkbl:=hko.lt;have hibl:=hto.lt;have Hlen:=Lib.hid hkl2;have Hrk:=Lib.hid hrk';have Hkt:=Lib.hid hkt;have Hkin:=Lib.hid hkin;clear hko hto hbb hrk hrk' htop hkin hkl2 htl2 hkt
        go_wp2_with fail
        have hjn:j≤n:=by omega
        have hic:¬ic=j:=by omega
        have hkc:¬kc=j:=by omega
        refine wp_region_still_tail 10 (by kernel_rfl) (by kernel_rfl) ?_;simp only[QbK,QbL,Qcb,Qa0];change wpStill _ _ wr.drew (fun a'=>wpList _ _ _ _ a' wr.drew) _ _
        repeat still_step
        refine wpStill_nil ?_
        go_wp2_with fail
        refine CL.out.mono ?_;rintro e w5 ⟨rfl,hO5,hB5⟩;rw[Vz p j (n-j) kl P (by have:=Hlen.out;omega)] at hO5
        have hE':Hid (kL p n g R w w5 S.cols S.piv (jY (jE p) S.cols.length j P Q2 (k+1)) odd cv pv):=Lib.hid (by
         rw[←Hsu.out]
         exact hE.out.setRow Hrk.out hO5 (by rw[Xv];exact Hlen.out) (VB (by have:=HP.out.1;omega) j Hkin.out) (jk.dr' hB5))
        clear hO5 hB5 CL hck hct hE
        go_wp2
        go_roundg gh2
        case rel=>exact⟨k+1,by go_num,by have:=Hkk.out;omega,hE'⟩
        case measure=>omega
    ·have hne:((i:Int)==(S.cols.length:Int))=false:=by simp;omega
     have HQ:Hid (j8 i S=kU S.rows i S.cols.length):=Lib.hid (by unfold j8;rw[if_neg hit]);have HO:Hid ((if i=S.cols.length then S.odd else !S.odd) = !S.odd):=Lib.hid (if_neg hit);have hci:=HE.out.mx.cellRow hri;have hct:=HE.out.mx.cellRow hrt;have hfi:=HE.out.mx.own.free i;have hft:=HE.out.mx.own.free S.cols.length;have hgl:=HE.out.mx.own.lt;have HE2:=Lib.hid (HE.out.swap hri hrt);have Hrow:=Lib.hid (Q0 hri hrt);rw[←HQ.out] at Hrow HE2;clear HR HQ hri hrt HE hi2 hil;obtain⟨ib,ic,il⟩:=ri;obtain⟨tb,tc,tl⟩:=rt;unfold qL at hci hct HE2;dsimp only at hci hct HE2;generalize hQe:j8 i S=Q at *;have HQe:=Lib.hid hQe;clear hQe
     go_upto_region 9 with fail
     go_region
     obtain⟨w2,hw2⟩:∃w2,w2=((w1.setCell ⟨g,i,none⟩ (.slice (some ⟨tb,0,none⟩) n tc)).setCell ⟨g,S.cols.length,none⟩ (.slice (some ⟨ib,0,none⟩) n ic)).drew:=⟨_,rfl⟩
     rw[←hw2] at HE2;rw[←hw2];clear hw2 hci hct hfi hft hgl hit;obtain⟨x0,x1,x2,x3,y0,y1,y2,y3⟩:=HE2.out.res.four;have HE3:=Lib.hid (HE2.out.setOdd (!S.odd));rw[←HO.out] at HE3;have hln:=HE2.out.res.lt;clear HE2
     go_upto_region 11 with fail
     obtain⟨w3,hw3⟩:∃w3,w3=w2.setCell ⟨w.heap.size+1,3,none⟩ (.bool (!S.odd)):=⟨_,rfl⟩
     rw[HO.out,←hw3,←HO.out] at HE3;rw[←hw3];clear hw3 x0 x1 x2 x3 y0 y1 y2 y3 hln w2 HO;generalize hOe:(if i=S.cols.length then S.odd else !S.odd)=odd at *;have HOe:=Lib.hid hOe;clear hOe;have HE:=HE3;clear HE3;have hcr:=HE.out.mx.cellRow Hrow.out;have hcx:=HE.out.mx.cellNum Hrow.out hj2;obtain⟨hro,hrl,hrc1,hrc2⟩:=HE.out.mx.row _ (Qab Hrow.out);have hin':=HE.out.inp _ (Qab Hrow.out);unfold qL at hcr;dsimp only at hcr hcx hro hrl hrc1 hrc2 hin';have hx:=hin' (il[j]?.getD 0) (by rw[Qaa (by omega)];exact Qay (by omega))
     have hx0:0<il[j]?.getD 0:=by have:=Hnz.out;omega
     have DV:=Lib.hid (VV p (il[j]?.getD 0) w3 ib j (n-j) (ic-j) il hro (by omega) (by omega) (by omega) HP.out hin' ⟨hx0,hx.2⟩);have hbl:=hro.lt;have hgl:=HE.out.mx.own.lt;have Hil:=Lib.hid hrl;clear hro hin' Hnz hx hx0 hrl;generalize hxe:il[j]?.getD 0=x at *;have Hxe:=Lib.hid hxe;clear hxe
     go_wp2_with fail
     refine DV.out.mono ?_;clear DV;rintro e w4 ⟨rfl,hO4,hB4⟩;rw[VT p x j (n-j) il (by have:=Hil.out;omega)] at hO4;have HE4:=Lib.hid (HE.out.setRow Hrow.out hO4 (by rw[Jz];exact Hil.out) (XG (by have:=HP.out.1;omega) x j (HE.out.inp _ (Qab Hrow.out))) hB4);clear hO4 hB4 hcr hcx hbl hgl hrc1 hrc2
     go_wp2_with fail
     have Hrow2:=Lib.hid (qG Hrow.out (j3 (jE p) x j il));have HL2:Hid ((j3 (jE p) x j il).length=n):=Lib.hid (by rw[Jz];exact Hil.out);have HSt:=Lib.hid (XL (F:=jE p) HQe.out Hrow.out Hxe.out HOe.out HE.out.len);have HinL:=Lib.hid (XG (by have:=HP.out.1;omega) x j (HE.out.inp _ (Qab Hrow.out)));clear HE Hrow Hxe HQe HOe Hil;generalize j3 (jE p) x j il=P at *;generalize setRow Q S.cols.length P=Q2 at *
     go_loopg [70] R.length (fun gh2 i wx=>∃k:Nat,i = .int .i64 k∧k+gh2=R.length∧Hid (kL p n g R w wx S.cols S.piv (jY (jE p) S.cols.length j P Q2 k) odd cv pv))
     case atStart=>exact⟨0,rfl,by omega,Lib.hid (by rw[Xz];exact HE4.out)⟩
     case round=>
      have HQl:Hid (Q2.length=R.length):=Lib.hid HE4.out.len;clear HE4;obtain⟨k,rfl,hkk,hE⟩:=hrel
      cases gk with
      | zero=>
       have hkR:k=R.length:=by omega
       have hkn:¬((k:Int)<(R.length:Int)):=by omega
       have hE5:Hid (kL p n g R w wr S.cols S.piv (jY (jE p) S.cols.length j P Q2 R.length) odd cv pv):=Lib.hid (by rw[←hkR];exact hE.out);clear hE hkk hkR;have hsz:=hE5.out.res.lt
       have hl1:S.piv.length<1000000:=by have:=HS.out;omega
       obtain⟨x0,x1,x2,x3,y0,y1,y2,y3⟩:=hE5.out.res.four
       go_upto_region 20 with (at_builtin;(refine wpList_append_own _ rfl _ _ 41 rfl (w.heap.size+2) 3 i0 (.int .i64 0) 1 8 Tryz.underlying41 hi0 hz0 hz1 hz2 rfl (by decide) _ _ _ rfl (hE5.out.cown.alloc _) ⟨wr.heap.size,0,none⟩ 1 1 [.int .i64 j] rfl rfl (cell_one_new _ _ _) (fun x hx=>by simp at hx;subst hx;rfl) (by unfold maxLen;omega) (by omega) (by simp;omega) ?_;intro v5 w5 hown5 hgrow5 _;obtain⟨A5,c5,rfl,_,_⟩:=jX hown5;have hA:=hE5.out.addCol hown5 hgrow5;have hXX:=hA.1.four;obtain⟨q0,q1,q2,q3,r0,r1,r2,r3⟩:=hXX;have HE6:=Lib.hid hA.2;clear hA hown5 hgrow5))
       obtain⟨w6,hw6⟩:∃w6,w6=w5.setCell ⟨w.heap.size+1,1,none⟩ (.slice A5 (S.cols.length+1) c5):=⟨_,rfl⟩
       rw[←hw6] at HE6;rw[←hw6];clear hw6 x0 x1 x2 x3 y0 y1 y2 y3 q0 q1 q2 q3 r0 r1 r2 r3 hE5 hsz;have hsz:=HE6.out.res.lt;obtain⟨x0,x1,x2,x3,y0,y1,y2,y3⟩:=HE6.out.res.four
       go_wp2_with (at_builtin;(refine wpList_append_own _ rfl _ _ 118 rfl (w.heap.size+2) 2 j0 (.int .i64 0) 1 8 Tryz.underlying118 hj0 hw0 hw1 hw2 rfl (by decide) _ _ _ rfl (HE6.out.pown.alloc _) ⟨w6.heap.size,0,none⟩ 1 1 [.int .i64 x] rfl rfl (cell_one_new _ _ _) (fun x hx=>by simp at hx;subst hx;rfl) (by unfold maxLen;omega) (by omega) (by simp;omega) ?_;intro v7 w7 hown7 hgrow7 _;obtain⟨A7,c7,rfl,_,_⟩:=jX hown7;have hA:=HE6.out.addPiv hown7 hgrow7;have hXX:=hA.1.four;obtain⟨q0,q1,q2,q3,r0,r1,r2,r3⟩:=hXX;have HE8:=Lib.hid hA.2;clear hA hown7 hgrow7))
       go_roundg gh
       case rel=>
        have hcl:(kg (jE p) i j S).cols=S.cols++[j]:=by rw[HSt.out]
        exact⟨kg (jE p) i j S,j+1,_,_,by go_num,by rw[hcl,Qaf];go_num,by rw[hcl,Qaf];have:=Hk.out;simp;omega,Lib.hid (HE8.out.inv HSt.out HS.out hj2 hlt Hsome.out Hgo.out)⟩
       case measure=>omega
      | succ gh2=>
       have hkl:k<R.length:=by omega
       have hkl':((k:Int)<(R.length:Int)):=by omega
       obtain⟨rk,hrk⟩:∃r,Q2[k]? =some r:=⟨Q2[k]'(by rw[HQl.out];exact hkl),Qaa _⟩
       have hrk':=(Ql (F:=jE p) (R:=Q2) (top:=S.cols.length) (o:=j) (P:=P) k).trans hrk;have hck:=hE.out.mx.cellRow hrk';have hgl:=hE.out.mx.own.lt;have Hkk:=Lib.hid hkk;clear hkk;by_cases hkt:k=S.cols.length
       ·have hkn:((k:Int)==(S.cols.length:Int))=true:=by simp;omega
        have hE':Hid (kL p n g R w wr S.cols S.piv (jY (jE p) S.cols.length j P Q2 (k+1)) odd cv pv):=Lib.hid (by rw[hkt,Xw];have:=hE.out;rw[hkt] at this;exact this);clear hE hkt hrk hrk';obtain⟨kb,kc,kl⟩:=rk;unfold qL at hck;dsimp only at hck
        go_wp2
        go_roundg gh2
        case rel=>exact⟨k+1,by go_num,by have:=Hkk.out;omega,hE'⟩
        case measure=>omega
       ·have hkn:((k:Int)==(S.cols.length:Int))=false:=by simp;omega
        obtain⟨hko,hkl2,hkc1,hkc2⟩:=hE.out.mx.row _ (Qab hrk');have htop:=(Xy (F:=jE p) (R:=Q2) (top:=S.cols.length) (o:=j) (P:=P) k).trans Hrow2.out;have hct:=hE.out.mx.cellRow htop;obtain⟨hto,htl2,htc1,htc2⟩:=hE.out.mx.row _ (Qab htop);have hbb:ib≠rk.1:=ZX hE.out.mx.apart htop hrk' (fun e=>hkt e.symm);have hkin:=hE.out.inp _ (Qab hrk');have Hsu:=Lib.hid (Xx (F:=jE p) (top:=S.cols.length) (o:=j) (P:=P) hkt hrk);obtain⟨kb,kc,kl⟩:=rk;unfold qL at hck hct;dsimp only at hck hct hko hkl2 hkc1 hkc2 hto htl2 htc1 htc2 hbb hkin;have CL:=Lib.hid (Vy p wr.drew kb j (n-j) (kc-j) ib j (ic-j) kl P hko hto hbb (by omega) (by omega) (by omega) (by omega) (by omega) (by omega) (by omega) HP.out hkin HinL.out);have hkbl:=hko.lt;have hibl:=hto.lt;have Hlen:=Lib.hid hkl2;have Hrk:=Lib.hid hrk';have Hkt:=Lib.hid hkt;have Hkin:=Lib.hid hkin;clear hko hto hbb hrk hrk' htop hkin hkl2 htl2 hkt
        go_wp2_with fail
        have hjn:j≤n:=by omega
        have hic:¬ic=j:=by omega
        have hkc:¬kc=j:=by omega
        refine wp_region_still_tail 10 (by kernel_rfl) (by kernel_rfl) ?_;simp only[QbK,QbL,Qcb,Qa0];change wpStill _ _ wr.drew (fun a'=>wpList _ _ _ _ a' wr.drew) _ _
        repeat still_step
        refine wpStill_nil ?_
        go_wp2_with fail
        refine CL.out.mono ?_;rintro e w5 ⟨rfl,hO5,hB5⟩;rw[Vz p j (n-j) kl P (by have:=Hlen.out;omega)] at hO5
        have hE':Hid (kL p n g R w w5 S.cols S.piv (jY (jE p) S.cols.length j P Q2 (k+1)) odd cv pv):=Lib.hid (by
         rw[←Hsu.out]
         exact hE.out.setRow Hrk.out hO5 (by rw[Xv];exact Hlen.out) (VB (by have:=HP.out.1;omega) j Hkin.out) (jk.dr' hB5))
        clear hO5 hB5 CL hck hct hE
        go_wp2
        go_roundg gh2
        case rel=>exact⟨k+1,by go_num,by have:=Hkk.out;omega,hE'⟩
        case measure=>omega
   ·have hgo:Hid (S=jy (jE p) n R.length 0 ⟨R,[],[],false⟩):=Lib.hid (by
     rw[←hE.out.go]
     exact(V8 (by omega) (GW _ _ (fun c h1 h2 t h3 h4=>by rw[Yk,hcl c h1 (by have:=hE.out.hfr;omega) t h3 h4];rfl))).symm)
    clear hE hB1 hcl;have hE:=hE1;clear hE1;obtain⟨A1,k1,hcv,_,_⟩:=jX hE.out.cown;obtain⟨A2,k2,hpv,hk2,_⟩:=jX hE.out.pown
    have hpl:S.piv.length≤c:=by rw[hE.out.same];omega
    obtain⟨x0,x1,x2,x3,y0,y1,y2,y3⟩:=hE.out.res.four;obtain⟨z0,z1,z2,z3,v0,v1,v2,v3⟩:=hE.out.out.four;have hF:=Lib.hid (fun (wf:World) e h1 h2 h3=>V5 (c:=c) (wf:=wf) (e:=e) HM.out hE.out (by omega) hgo.out h1 h2 h3);subst hcv hpv;clear hE hgo
    go_wp2
    exact bodyPost_ret (v:= .agg #[.slice (some ⟨g,0,none⟩) S.piv.length c,.slice A1 S.cols.length k1,.slice A2 S.piv.length k2,.bool S.odd]) (by simp[results,Tryz.results114,go_sem,z0,z1,z2,z3]) rfl (hF.out _ _ (by
      exact((((((Below.refl w.heap.size w1).setCell (by simp) _).setCell (by simp) _).setCell (by simp) _).setCell (by simp) _).setCell (by simp) _))
     (fun k hk=>by simp only[World.setCell,QbH];rw[if_neg (by omega),if_neg (by omega),if_neg (by omega),if_neg (by omega),if_neg (by omega)]) rfl)
