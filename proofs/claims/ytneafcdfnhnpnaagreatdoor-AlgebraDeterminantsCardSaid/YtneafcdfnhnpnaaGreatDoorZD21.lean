/- Contract: eliminate over the residues. -/
import Derived.Test.YtneafcdfnhnpnaaGreatDoorZD20
set_option maxRecDepth 100000
set_option maxHeartbeats 4000000
namespace Go.Proofs.YtneafcdfnhnpnaaGreatDoor
open Go.RowKit
def jo (L:List Nat):List Value:=L.map fun (x:Nat)=>Value.int .i64 (x:Int)
theorem xX (L:List Nat) (x:Nat):jo (L++[x])=jo L++[.int .i64 (x:Int)]:=by simp[jo]
theorem NW (L:List Int) (x:Int):je (L++[x])=je L++[.int .i64 x]:=by simp[je]
theorem N9:(Tryz.prog.info? 2).map (fun i=>(i.zero,i.size,i.bytes))=some (some (.int .i64 0),1,8):=by kernel_rfl
abbrev jm:Value:= .slice none 0 0
structure zl (p:Int) (n g:Nat) (R:List jR) (w wr:World) (S:jz Int) (fr:Nat) (cv pv:Value):Prop where
 mx:ki wr g S.rows n
 out:ja wr w.heap.size 194 [jm,jm,jm,.bool false]
 res:ja wr (w.heap.size+1) 194 [jm,cv,pv,.bool S.odd]
 cown:wr.ownsRow (w.heap.size+2) 3 1 cv S.cols.length (jo S.cols)
 pown:wr.ownsRow (w.heap.size+2) 2 1 pv S.piv.length (je S.piv)
 same:S.piv.length=S.cols.length
 len:S.rows.length=R.length
 perm:List.Perm (S.rows.map (·.1)) (R.map (·.1))
 inp:xP p S.rows
 hfr:fr≤n
 go:jH (jC p) n (R.length-S.cols.length) fr S=jH (jC p) n R.length 0 ⟨R,[],[],false⟩
 buts:jL (g::R.map (·.1)) w wr
def YH (p:Int) (n g c:Nat) (R:List jR) (w:World) (e:Ending) (w':World):Prop:=
 ∃S,S=jH (jC p) n R.length 0 ⟨R,[],[],false⟩ ∧ ∃cv pv,e = .returned (.agg #[.slice (some ⟨g,0,none⟩) S.piv.length c,cv,pv,.bool S.odd]) ∧
  ki w' g S.rows n∧w'.ownsRow w.heap.size 3 1 cv S.cols.length (jo S.cols)∧w'.ownsRow w.heap.size 2 1 pv S.piv.length (je S.piv) ∧
  S.piv.length=S.cols.length∧S.piv.length≤S.rows.length∧S.rows.length=R.length∧List.Perm (S.rows.map (·.1)) (R.map (·.1))∧xP p S.rows∧jL (g::R.map (·.1)) w w'
theorem jL.belowAt {s:List Nat} {a b c:World} (h:jL s a b) (k:Below a.heap.size b c):jL s a c:=
 ⟨k.os.trans h.os,k.tape.trans h.tape,k.output.trans h.output,Nat.le_trans h.size k.size,fun i hi hs=>(k.block i hi).trans (h.block i hi hs)⟩
theorem zd {w:World} {base base':Nat} {e:TypeId} {size:Nat} {v:Value} {n:Nat} {xs:List Value} (h:w.ownsRow base e size v n xs) (hb:base'≤base):w.ownsRow base' e size v n xs:=by
 refine⟨h.1,?_⟩
 rcases h.2 with hn | ⟨g,cap,cur,h1,h2,rest⟩
 ·exact .inl hn
 ·exact .inr ⟨g,cap,cur,h1,Nat.le_trans hb h2,rest⟩
theorem zl.below {p:Int} {n g:Nat} {R:List jR} {w wr w1:World} {S:jz Int} {fr:Nat} {cv pv:Value} (h:zl p n g R w wr S fr cv pv) (hb:Below wr.heap.size wr w1):zl p n g R w w1 S fr cv pv:=
 ⟨h.mx.below hb,h.out.below hb h.out.lt,h.res.below hb h.res.lt,kB h.cown hb,kB h.pown hb,h.same,h.len,h.perm,h.inp,h.hfr,h.go,h.buts.below hb⟩
theorem Vb {T:Type} {F:Fd T} {n k fr:Nat} {S:jz T} (hk:0<k) (h:kP F S.rows S.cols.length (n-fr) fr=none):jH F n k fr S=S:=by
 obtain⟨j,rfl⟩:∃j,k=j+1:=⟨k-1,by omega⟩
 unfold jH;rw[h]
theorem YD {T:Type} {F:Fd T} {n k fr row col:Nat} {S:jz T} (h:kP F S.rows S.cols.length (n-fr) fr=some (row,col)):jH F n (k+1) fr S=jH F n k (col+1) (jU F row col S):=by
 conv=>lhs;unfold jH
 rw[h]
theorem Xt {p:Int} {R:List jR} {i j:Nat} :(jC p).isZ (jI (jC p) R i j)=(zD R i j==0):=rfl
structure kE (p:Int) (n g:Nat) (R:List jR) (w wr:World) (C:List Nat) (V:List Int) (Q:List jR) (odd:Bool) (cv pv:Value):Prop where
 mx:ki wr g Q n
 out:ja wr w.heap.size 194 [jm,jm,jm,.bool false]
 res:ja wr (w.heap.size+1) 194 [jm,cv,pv,.bool odd]
 cown:wr.ownsRow (w.heap.size+2) 3 1 cv C.length (jo C)
 pown:wr.ownsRow (w.heap.size+2) 2 1 pv V.length (je V)
 len:Q.length=R.length
 perm:List.Perm (Q.map (·.1)) (R.map (·.1))
 inp:xP p Q
 lt:∀k,k=g∨k∈R.map (·.1)→k<w.heap.size
 buts:jL (g::R.map (·.1)) w wr
section
variable {p:Int} {n g:Nat} {R Q:List jR} {w w1 w2:World} {S:jz Int} {C:List Nat} {V:List Int} {fr i:Nat} {odd:Bool} {cv pv:Value}
theorem zl.mid (HM:ki w g R n) (h:zl p n g R w w1 S fr cv pv):kE p n g R w w1 S.cols S.piv S.rows S.odd cv pv:=
 ⟨h.mx,h.out,h.res,h.cown,h.pown,h.len,h.perm,h.inp,fun _ hk=>HM.lt hk,h.buts⟩
theorem kE.swap (h:kE p n g R w w1 C V Q odd cv pv) {i j:Nat} {a b:jR} (hi:Q[i]? =some a) (hj:Q[j]? =some b):
  kE p n g R w (((w1.setCell ⟨g,i,none⟩ (qz n b)).setCell ⟨g,j,none⟩ (qz n a)).drew) C V (j9 Q i j) odd cv pv:=by
 have hg:=h.lt g (.inl rfl);refine⟨(h.mx.swap hi hj).keep (fun _ _=>rfl),?_,?_,?_,?_,by rw[Kk,h.len],((Km Q i j).map _).trans h.perm,h.inp.swap i j,h.lt,(((h.buts.setCell _ (by simp) _).setCell _ (by simp) _).drew)⟩
 ·exact(h.out.other (p:=⟨g,i,none⟩) (fun e=>by simp at e;omega) _).other (p:=⟨g,j,none⟩) (fun e=>by simp at e;omega) _
 ·exact(h.res.other (p:=⟨g,i,none⟩) (fun e=>by simp at e;omega) _).other (p:=⟨g,j,none⟩) (fun e=>by simp at e;omega) _
 ·exact xy (xy h.cown ⟨g,i,none⟩ (by simp;omega) _) ⟨g,j,none⟩ (by simp;omega) _
 ·exact xy (xy h.pown ⟨g,i,none⟩ (by simp;omega) _) ⟨g,j,none⟩ (by simp;omega) _
theorem kE.setOdd (h:kE p n g R w w1 C V Q odd cv pv) (b:Bool):kE p n g R w (w1.setCell ⟨w.heap.size+1,3,none⟩ (.bool b)) C V Q b cv pv:=by
 refine⟨h.mx.keep (fun k hk=>Below.heap_setCell _ _ _ _ (by
   have:=h.lt k (hk.imp id fun x=>h.perm.mem_iff.1 x);simp;omega)),h.out.other (p:=⟨w.heap.size+1,3,none⟩) (fun e=>by simp at e) _,?_,xy h.cown ⟨w.heap.size+1,3,none⟩ (by simp) _,xy h.pown ⟨w.heap.size+1,3,none⟩ (by simp) _,h.len,h.perm,h.inp,h.lt,h.buts.setNew _ (by simp) _⟩
 have:=h.res.put 3 (.bool b);exact this
theorem kE.below (h:kE p n g R w w1 C V Q odd cv pv) (hb:Below w1.heap.size w1 w2):kE p n g R w w2 C V Q odd cv pv:=
 ⟨h.mx.below hb,h.out.below hb h.out.lt,h.res.below hb h.res.lt,kB h.cown hb,kB h.pown hb,h.len,h.perm,h.inp,h.lt,h.buts.below hb⟩
theorem kE.setRow (h:kE p n g R w w1 C V Q odd cv pv) {r:jR} (hr:Q[i]? =some r) {L:List Int} (hO:ja w2 r.1 2 (je L)) (hl:L.length=n) (hL:∀x∈L,0≤x∧x<p) (hb:jh r.1 w1 w2):
  kE p n g R w w2 C V (setRow Q i L) odd cv pv:=by
 have hrb:r.1∈R.map (·.1):=h.perm.mem_iff.1 (List.mem_map_of_mem (List.mem_of_getElem? hr));have hlt:=h.lt r.1 (.inr hrb);exact⟨h.mx.setRow hr hO hl hb,h.out.but hb (by omega),h.res.but hb (by omega),K5 h.cown hb (by omega),K5 h.pown hb (by omega),by rw[JE];exact h.len,by rw[JD];exact h.perm,h.inp.set i hL,h.lt,h.buts.but hb (List.mem_cons_of_mem _ hrb)⟩
theorem Yl {B:Nat} {a:World} {e e':TypeId} {v v':Value} {n n':Nat} {xs xs':List Value} (h:a.ownsRow B e 1 v n xs) (h':a.ownsRow B e' 1 v' n' xs') (hee:e≠e') (k:Nat) (hk:v.ownBlock=some k):v'.ownBlock≠some k:=by
 intro hk'
 rcases h.2 with ⟨rfl,_⟩ | ⟨g,cap,cur,rfl,_,hg,_⟩
 ·simp[Value.ownBlock] at hk
 ·rcases h'.2 with ⟨rfl,_⟩ | ⟨g',cap',cur',rfl,_,hg',_⟩
  ·simp[Value.ownBlock] at hk'
  ·simp[Value.ownBlock] at hk hk'
   subst hk hk';rw[hg] at hg'
   injection hg' with hg'
   injection hg' with _ hg'
   exact hee hg'
theorem kE.addCol (h:kE p n g R w w1 C V Q odd cv pv) {o:Obj} {v5:Value} {j:Nat} (hown:w2.ownsRow (w.heap.size+2) 3 1 v5 (C.length+1) (jo C++[.int .i64 (j:Int)])) (hg:(w1.alloc o).grownBy w2 cv.ownBlock):
  ja w2 (w.heap.size+1) 194 [jm,cv,pv,.bool odd]∧kE p n g R w (w2.setCell ⟨w.heap.size+1,1,none⟩ v5) (C++[j]) V Q odd v5 pv:=by
 have ha:Below w1.heap.size w1 (w1.alloc o):=(Below.refl _ _).alloc (Nat.le_refl _) _;have hm:=h.below ha
 have hcv:∀k,cv.ownBlock=some k→w.heap.size+2≤k:=fun k hk=>(hm.cown.lt k hk).1
 have hX:=hm.res.grown hg (fun e=>by have:=hcv _ e;omega);have hlt:=h.lt;refine⟨hX,hm.mx.keep (fun k hk=> ?_),?_,hX.put 1 v5,?_,?_,h.len,h.perm,h.inp,h.lt,(hm.buts.grown hg (fun k hk=>by have:=hcv k hk;omega)).setNew _ (by simp) _⟩
 ·have hk':=h.lt k (hk.imp id fun x=>h.perm.mem_iff.1 x)
  exact(Below.heap_setCell _ _ _ _ (by simp;omega)).trans (hg.block k (by have:=hm.res.lt;omega) (fun e=>by have:=hcv k e.symm;omega))
 ·exact(hm.out.grown hg (fun e=>by have:=hcv _ e;omega)).other (p:=⟨w.heap.size+1,1,none⟩) (fun e=>by simp at e) _
 ·rw[xX,List.length_append]
  exact xy hown ⟨w.heap.size+1,1,none⟩ (by simp) _
 ·refine xy (hm.pown.kept hg ?_) ⟨w.heap.size+1,1,none⟩ (by simp) _
  cases hp:pv.ownBlock with
  | none=>exact .inl rfl
  | some k=>exact .inr (fun e=>Yl hm.pown hm.cown (by decide) k hp e.symm)
theorem kE.addPiv (h:kE p n g R w w1 C V Q odd cv pv) {o:Obj} {v5:Value} {x:Int} (hown:w2.ownsRow (w.heap.size+2) 2 1 v5 (V.length+1) (je V++[.int .i64 x])) (hg:(w1.alloc o).grownBy w2 pv.ownBlock):
  ja w2 (w.heap.size+1) 194 [jm,cv,pv,.bool odd]∧kE p n g R w (w2.setCell ⟨w.heap.size+1,2,none⟩ v5) C (V++[x]) Q odd cv v5:=by
 have ha:Below w1.heap.size w1 (w1.alloc o):=(Below.refl _ _).alloc (Nat.le_refl _) _;have hm:=h.below ha
 have hcv:∀k,pv.ownBlock=some k→w.heap.size+2≤k:=fun k hk=>(hm.pown.lt k hk).1
 have hX:=hm.res.grown hg (fun e=>by have:=hcv _ e;omega);have hlt:=h.lt;refine⟨hX,hm.mx.keep (fun k hk=> ?_),?_,hX.put 2 v5,?_,?_,h.len,h.perm,h.inp,h.lt,(hm.buts.grown hg (fun k hk=>by have:=hcv k hk;omega)).setNew _ (by simp) _⟩
 ·have hk':=h.lt k (hk.imp id fun x=>h.perm.mem_iff.1 x)
  exact(Below.heap_setCell _ _ _ _ (by simp;omega)).trans (hg.block k (by have:=hm.res.lt;omega) (fun e=>by have:=hcv k e.symm;omega))
 ·exact(hm.out.grown hg (fun e=>by have:=hcv _ e;omega)).other (p:=⟨w.heap.size+1,2,none⟩) (fun e=>by simp at e) _
 ·refine xy (hm.cown.kept hg ?_) ⟨w.heap.size+1,2,none⟩ (by simp) _
  cases hp:cv.ownBlock with
  | none=>exact .inl rfl
  | some k=>exact .inr (fun e=>Yl hm.cown hm.pown (by decide) k hp e.symm)
 ·rw[NW,List.length_append]
  exact xy hown ⟨w.heap.size+1,2,none⟩ (by simp) _
theorem YE {T:Type} {F:Fd T} {S:jz T} {Q:List (jV T)} {i j m ib ic:Nat} {il:List T} {x:T} {odd:Bool} (hQ:jX i S=Q) (hr:Q[S.cols.length]? =some (ib,ic,il)) (hx:il[j]?.getD F.z=x) (ho:(if i=S.cols.length then S.odd else !S.odd)=odd) (hm:Q.length=m):
  jU F i j S=⟨ke F S.cols.length j (kf F x j il) (setRow Q S.cols.length (kf F x j il)) m,S.cols++[j],S.piv++[x],odd⟩:=by
 have e1:elPiv F i j S=x:=by unfold elPiv jI;rw[hQ,kW hr];exact hx
 have e2:elDiv F i j S=setRow Q S.cols.length (kf F x j il):=by unfold elDiv;rw[e1,hQ,kW hr]
 have e3:jG (elDiv F i j S) S.cols.length=kf F x j il:=by rw[e2,kW (qA hr _)]
 unfold jU;rw[e3,e1,e2,ho,JE,hm]
theorem kE.inv {wf:World} {i j:Nat} {Q':List jR} {x:Int} (h:kE p n g R w wf (S.cols++[j]) (S.piv++[x]) Q' odd cv pv) (hS:jU (jC p) i j S=⟨Q',S.cols++[j],S.piv++[x],odd⟩) (hs:S.piv.length=S.cols.length) (hj:j<n) (hl:S.cols.length<R.length)
  (hp:kP (jC p) S.rows S.cols.length (n-fr) fr=some (i,j)) (hgo:jH (jC p) n (R.length-S.cols.length) fr S=jH (jC p) n R.length 0 ⟨R,[],[],false⟩):zl p n g R w wf (jU (jC p) i j S) (j+1) cv pv:=by
 have hgo':jH (jC p) n (R.length-(S.cols++[j]).length) (j+1) (jU (jC p) i j S)=jH (jC p) n R.length 0 ⟨R,[],[],false⟩:=by
  rw[←hgo,show R.length-S.cols.length=(R.length-(S.cols++[j]).length)+1 by simp;omega,YD hp]
 rw[hS] at hgo' ⊢;exact⟨h.mx,h.out,h.res,h.cown,h.pown,by simp[hs],h.len,h.perm,h.inp,hj,hgo',h.buts⟩
theorem jh.dr' {g:Nat} {a b:World} (h:jh g a.drew b):jh g a b:=⟨h.os,h.tape,h.output,h.size,h.block⟩
end
theorem U7 {p:Int} {n g c:Nat} {R:List jR} {w wr wf:World} {S:jz Int} {fr:Nat} {cv pv:Value} {e:Ending} (HM:ki w g R n) (hE:zl p n g R w wr S fr cv pv) (hS:S.cols.length≤R.length)
  (hgo:S=jH (jC p) n R.length 0 ⟨R,[],[],false⟩) (hB:Below w.heap.size wr wf) (h2:∀k,w.heap.size+2≤k→wf.heap[k]? =wr.heap[k]?) (he:e = .returned (.agg #[.slice (some ⟨g,0,none⟩) S.piv.length c,cv,pv,.bool S.odd])):YH p n g c R w e wf:=by
 have hlt:∀k,k=g∨k∈S.rows.map (·.1)→k<w.heap.size:=fun k hk=>HM.lt (hk.imp id fun h=>hE.perm.mem_iff.1 h)
 refine⟨S,hgo,cv,pv,he,hE.mx.keep (fun k hk=>hB.block k (hlt k hk)),?_,?_,hE.same,?_,hE.len,hE.perm,hE.inp,hE.buts.belowAt hB⟩
 ·exact zd (xa hE.cown fun k _ hv=>h2 k (hE.cown.lt k hv).1) (by omega)
 ·exact zd (xa hE.pown fun k _ hv=>h2 k (hE.pown.lt k hv).1) (by omega)
 ·rw[hE.same,hE.len];exact hS
theorem T7 (p:Int) (g c n:Nat) (R:List jR) (w:World) (hM:ki w g R n) (hc:R.length≤c) (hc2:c≤1000000) (hn:n≤1000000) (hp:PF p) (hI:xP p R):
  Calls Tryz.prog 163 #[.iface 197 (.agg #[.int .i64 p]),.slice (some ⟨g,0,none⟩) R.length c] w (YH p n g c R w):=by
 have HM:=Lib.hid hM;have HI:=Lib.hid hI;have HP:=Lib.hid hp;clear hM hI hp;obtain⟨i0,hi0,hz0,hz1,hz2⟩:=info_parts y9;obtain⟨j0,hj0,hw0,hw1,hw2⟩:=info_parts N9;go_enter Tryz.func163,Tryz.ntmps163
 go_wp2_with fail
 go_loopg [6,17] R.length (fun gh f i wr=>∃(S:jz Int) (fr:Nat) (cv pv:Value),f = .int .i64 fr∧i = .int .i64 (S.cols.length:Nat)∧S.cols.length+gh=R.length∧Hid (zl p n g R w wr S fr cv pv))
 case atStart=>
  refine⟨⟨R,[],[],false⟩,0,jm,jm,rfl,rfl,by simp,Lib.hid ?_⟩;have hb:Below w.heap.size w ((w.alloc (.cells #[jm,jm,jm,.bool false] 194)).alloc (.cells #[jm,jm,jm,.bool false] 194)):=((Below.refl _ _).alloc (Nat.le_refl _) _).alloc (by simp) _;exact⟨HM.out.below hb,(ja.make w _ [jm,jm,jm,.bool false]).alloc _,by have:=ja.make (w.alloc (.cells #[jm,jm,jm,.bool false] 194)) 194 [jm,jm,jm,.bool false];simpa using this,World.ownsRow_nil _ _ _ _,World.ownsRow_nil _ _ _ _,rfl,rfl,List.Perm.refl _,HI.out,by omega,rfl,jL.of_below hb⟩
 case round=>
  obtain⟨S,fr,cv,pv,rfl,rfl,hk,hE⟩:=hrel
  cases gk with
  | zero=>
   have hin:¬((S.cols.length:Int)<(R.length:Int)):=by omega
   have hgo:Hid (S=jH (jC p) n R.length 0 ⟨R,[],[],false⟩):=Lib.hid (by
    have h:=hE.out.go;rw[show R.length-S.cols.length=0 by omega] at h
    exact h)
   obtain⟨A1,k1,hcv,_,_⟩:=j7 hE.out.cown;obtain⟨A2,k2,hpv,hk2,_⟩:=j7 hE.out.pown
   have hpl:S.piv.length≤c:=by rw[hE.out.same];omega
   obtain⟨x0,x1,x2,x3,y0,y1,y2,y3⟩:=hE.out.res.four;obtain⟨z0,z1,z2,z3,v0,v1,v2,v3⟩:=hE.out.out.four;have hF:=Lib.hid (fun (wf:World) e h1 h2 h3=>U7 (c:=c) (wf:=wf) (e:=e) HM.out hE.out (by omega) hgo.out h1 h2 h3);subst hcv hpv;clear hE hgo
   go_wp2
   exact bodyPost_ret (v:= .agg #[.slice (some ⟨g,0,none⟩) S.piv.length c,.slice A1 S.cols.length k1,.slice A2 S.piv.length k2,.bool S.odd]) (by simp[results,Tryz.results163,go_sem,z0,z1,z2,z3]) rfl (hF.out _ _ (by
     exact((((((Below.refl w.heap.size wr).setCell (by simp) _).setCell (by simp) _).setCell (by simp) _).setCell (by simp) _).setCell (by simp) _))
    (fun k hk=>by simp only[World.setCell,Array.getElem?_modify];rw[if_neg (by omega),if_neg (by omega),if_neg (by omega),if_neg (by omega),if_neg (by omega)]) rfl)
  | succ gh=>
   have hin:((S.cols.length:Int)<(R.length:Int)):=by omega
   have hlt:S.cols.length<R.length:=by omega
   have Hk:=Lib.hid hk;clear hk
   have NP:Hid (Calls Tryz.prog 211 #[.iface 197 (.agg #[.int .i64 p]),.slice (some ⟨g,0,none⟩) R.length c,.int .i64 (S.cols.length:Nat),.int .i64 fr] wr (Wu S.rows n S.cols.length fr wr)):=Lib.hid (by
    have h:=Ai p g c n S.rows wr S.cols.length fr hE.out.mx (by intro e;have:=hE.out.len;rw[e] at this;simp at this;omega) (by rw[hE.out.len];exact hc) hc2 (by rw[hE.out.len];omega) hE.out.hfr hn;rw[hE.out.len] at h
    exact h)
   go_wp2_with fail
   refine NP.out.mono ?_;clear NP;rintro e w1 ⟨hB1,h⟩;have hE1:Hid (zl p n g R w w1 S fr cv pv):=Lib.hid (hE.out.below hB1)
   rcases h with ⟨i,j,rfl,hi1,hi2,hj1,hj2,hnz,habove,hcl⟩ | ⟨i,j,rfl,hcl⟩
   ·clear hE
    have hE:=hE1;clear hE1 hB1;have hil:i<S.rows.length:=hi2
    obtain⟨ri,hri⟩:∃r,S.rows[i]? =some r:=⟨S.rows[i],List.getElem?_eq_getElem hil⟩
    obtain⟨rt,hrt⟩:∃r,S.rows[S.cols.length]? =some r:=⟨S.rows[S.cols.length]'(by rw[hE.out.len];exact hlt),List.getElem?_eq_getElem _⟩
    have hiR:i<R.length:=by rw[←hE.out.len];exact hil
    have Hsome:=Lib.hid (Zj (F:=jC p) (R:=S.rows) (n-fr) fr hj1 (by have:=hE.out.hfr;omega) hi1 hil (by rw[Xt];simpa using hnz) (fun t h1 h2=>by rw[Xt,habove t h1 h2];rfl) (fun c h1 h2 t h3 h4=>by rw[Xt,hcl c h1 h2 t h3 h4];rfl));have Hnz:Hid (ri.2.2[j]?.getD 0≠0):=Lib.hid (by rw[←Wg hri];exact hnz);have HS:=Lib.hid hE.out.same;have Hgo:=Lib.hid hE.out.go;have HR:=Lib.hid (Eq.refl S.rows);clear habove hcl hnz;have HE:=Lib.hid (hE.out.mid HM.out);clear hE;by_cases hit:i=S.cols.length
    ·have hne:((i:Int)==(S.cols.length:Int))=true:=by simp;omega
     have HQ:Hid (jX i S=S.rows):=Lib.hid (by unfold jX;rw[if_pos hit]);have HO:Hid ((if i=S.cols.length then S.odd else !S.odd)=S.odd):=Lib.hid (if_pos hit);have Hrow:Hid (S.rows[S.cols.length]? =some ri):=Lib.hid (hit ▸ hri);clear hri hrt hit hi2 hil;rw[←HQ.out] at Hrow HE;rw[←HO.out] at HE;clear HR HQ HO;generalize hQe:jX i S=Q at *;have HQe:=Lib.hid hQe;clear hQe;obtain⟨ib,ic,il⟩:=ri;generalize hOe:(if i=S.cols.length then S.odd else !S.odd)=odd at *;have HOe:=Lib.hid hOe;clear hOe
     obtain⟨w3,rfl⟩:∃w3,w3=w1:=⟨_,rfl⟩
     go_upto_region 11 with fail
     have hcr:=HE.out.mx.cellRow Hrow.out;have hcx:=HE.out.mx.cellNum Hrow.out hj2;obtain⟨hro,hrl,hrc1,hrc2⟩:=HE.out.mx.row _ (List.mem_of_getElem? Hrow.out);have hin':=HE.out.inp _ (List.mem_of_getElem? Hrow.out);unfold qz at hcr;dsimp only at hcr hcx hro hrl hrc1 hrc2 hin';have hx:=hin' (il[j]?.getD 0) (by rw[List.getElem?_eq_getElem (by omega)];exact List.getElem_mem (by omega))
     have hx0:0<il[j]?.getD 0:=by have:=Hnz.out;omega
     have DV:=Lib.hid (UZ p (il[j]?.getD 0) w3 ib j (n-j) (ic-j) il hro (by omega) (by omega) (by omega) HP.out hin' ⟨hx0,hx.2⟩);have hbl:=hro.lt;have hgl:=HE.out.mx.own.lt;have Hil:=Lib.hid hrl;clear hro hin' Hnz hx hx0 hrl;generalize hxe:il[j]?.getD 0=x at *;have Hxe:=Lib.hid hxe;clear hxe
     go_wp2_with fail
     refine DV.out.mono ?_;clear DV;rintro e w4 ⟨rfl,hO4,hB4⟩;rw[UW p x j (n-j) il (by have:=Hil.out;omega)] at hO4;have HE4:=Lib.hid (HE.out.setRow Hrow.out hO4 (by rw[Jq];exact Hil.out) (QV (by have:=HP.out.1;omega) x j (HE.out.inp _ (List.mem_of_getElem? Hrow.out))) hB4);clear hO4 hB4 hcr hcx hbl hgl hrc1 hrc2
     go_wp2_with fail
     have Hrow2:=Lib.hid (qA Hrow.out (kf (jC p) x j il));have HL2:Hid ((kf (jC p) x j il).length=n):=Lib.hid (by rw[Jq];exact Hil.out);have HSt:=Lib.hid (YE (F:=jC p) HQe.out Hrow.out Hxe.out HOe.out HE.out.len);have HinL:=Lib.hid (QV (by have:=HP.out.1;omega) x j (HE.out.inp _ (List.mem_of_getElem? Hrow.out)));clear HE Hrow Hxe HQe HOe Hil;generalize kf (jC p) x j il=P at *;generalize setRow Q S.cols.length P=Q2 at *
     go_loopg [70] R.length (fun gh2 i wx=>∃k:Nat,i = .int .i64 k∧k+gh2=R.length∧Hid (kE p n g R w wx S.cols S.piv (ke (jC p) S.cols.length j P Q2 k) odd cv pv))
     case atStart=>exact⟨0,rfl,by omega,Lib.hid (by rw[Yj];exact HE4.out)⟩
     case round=>
      have HQl:Hid (Q2.length=R.length):=Lib.hid HE4.out.len;clear HE4;obtain⟨k,rfl,hkk,hE⟩:=hrel
      cases gk with
      | zero=>
       have hkR:k=R.length:=by omega
       have hkn:¬((k:Int)<(R.length:Int)):=by omega
       have hE5:Hid (kE p n g R w wr S.cols S.piv (ke (jC p) S.cols.length j P Q2 R.length) odd cv pv):=Lib.hid (by rw[←hkR];exact hE.out);clear hE hkk hkR;have hsz:=hE5.out.res.lt
       have hl1:S.piv.length<1000000:=by have:=HS.out;omega
       obtain⟨x0,x1,x2,x3,y0,y1,y2,y3⟩:=hE5.out.res.four
       go_upto_region 20 with (at_builtin;(refine wpList_append_own _ rfl _ _ 50 rfl (w.heap.size+2) 3 i0 (.int .i64 0) 1 8 Tryz.underlying50 hi0 hz0 hz1 hz2 rfl (by decide) _ _ _ rfl (hE5.out.cown.alloc _) ⟨wr.heap.size,0,none⟩ 1 1 [.int .i64 j] rfl rfl (cell_one_new _ _ _) (fun x hx=>by simp at hx;subst hx;rfl) (by unfold maxLen;omega) (by omega) (by simp;omega) ?_;intro v5 w5 hown5 hgrow5 _;obtain⟨A5,c5,rfl,_,_⟩:=j7 hown5;have hA:=hE5.out.addCol hown5 hgrow5;have hXX:=hA.1.four;obtain⟨q0,q1,q2,q3,r0,r1,r2,r3⟩:=hXX;have HE6:=Lib.hid hA.2;clear hA hown5 hgrow5))
       obtain⟨w6,hw6⟩:∃w6,w6=w5.setCell ⟨w.heap.size+1,1,none⟩ (.slice A5 (S.cols.length+1) c5):=⟨_,rfl⟩
       rw[←hw6] at HE6;rw[←hw6];clear hw6 x0 x1 x2 x3 y0 y1 y2 y3 q0 q1 q2 q3 r0 r1 r2 r3 hE5 hsz;have hsz:=HE6.out.res.lt;obtain⟨x0,x1,x2,x3,y0,y1,y2,y3⟩:=HE6.out.res.four
       go_wp2_with (at_builtin;(refine wpList_append_own _ rfl _ _ 192 rfl (w.heap.size+2) 2 j0 (.int .i64 0) 1 8 Tryz.underlying192 hj0 hw0 hw1 hw2 rfl (by decide) _ _ _ rfl (HE6.out.pown.alloc _) ⟨w6.heap.size,0,none⟩ 1 1 [.int .i64 x] rfl rfl (cell_one_new _ _ _) (fun x hx=>by simp at hx;subst hx;rfl) (by unfold maxLen;omega) (by omega) (by simp;omega) ?_;intro v7 w7 hown7 hgrow7 _;obtain⟨A7,c7,rfl,_,_⟩:=j7 hown7;have hA:=HE6.out.addPiv hown7 hgrow7;have hXX:=hA.1.four;obtain⟨q0,q1,q2,q3,r0,r1,r2,r3⟩:=hXX;have HE8:=Lib.hid hA.2;clear hA hown7 hgrow7))
       go_roundg gh
       case rel=>
        have hcl:(jU (jC p) i j S).cols=S.cols++[j]:=by rw[HSt.out]
        exact⟨jU (jC p) i j S,j+1,_,_,by go_num,by rw[hcl,List.length_append];go_num,by rw[hcl,List.length_append];have:=Hk.out;simp;omega,Lib.hid (HE8.out.inv HSt.out HS.out hj2 hlt Hsome.out Hgo.out)⟩
       case measure=>omega
      | succ gh2=>
       have hkl:k<R.length:=by omega
       have hkl':((k:Int)<(R.length:Int)):=by omega
       obtain⟨rk,hrk⟩:∃r,Q2[k]? =some r:=⟨Q2[k]'(by rw[HQl.out];exact hkl),List.getElem?_eq_getElem _⟩
       have hrk':=(QQ (F:=jC p) (R:=Q2) (top:=S.cols.length) (o:=j) (P:=P) k).trans hrk;have hck:=hE.out.mx.cellRow hrk';have hgl:=hE.out.mx.own.lt;have Hkk:=Lib.hid hkk;clear hkk;by_cases hkt:k=S.cols.length
       ·have hkn:((k:Int)==(S.cols.length:Int))=true:=by simp;omega
        have hE':Hid (kE p n g R w wr S.cols S.piv (ke (jC p) S.cols.length j P Q2 (k+1)) odd cv pv):=Lib.hid (by rw[hkt,Yg];have:=hE.out;rw[hkt] at this;exact this);clear hE hkt hrk hrk';obtain⟨kb,kc,kl⟩:=rk;unfold qz at hck;dsimp only at hck
        go_wp2
        go_roundg gh2
        case rel=>exact⟨k+1,by go_num,by have:=Hkk.out;omega,hE'⟩
        case measure=>omega
       ·have hkn:((k:Int)==(S.cols.length:Int))=false:=by simp;omega
        obtain⟨hko,hkl2,hkc1,hkc2⟩:=hE.out.mx.row _ (List.mem_of_getElem? hrk');have htop:=(Yi (F:=jC p) (R:=Q2) (top:=S.cols.length) (o:=j) (P:=P) k).trans Hrow2.out;have hct:=hE.out.mx.cellRow htop;obtain⟨hto,htl2,htc1,htc2⟩:=hE.out.mx.row _ (List.mem_of_getElem? htop);have hbb:ib≠rk.1:=Y8 hE.out.mx.apart htop hrk' (fun e=>hkt e.symm);have hkin:=hE.out.inp _ (List.mem_of_getElem? hrk');have Hsu:=Lib.hid (Yh (F:=jC p) (top:=S.cols.length) (o:=j) (P:=P) hkt hrk);obtain⟨kb,kc,kl⟩:=rk;unfold qz at hck hct;dsimp only at hck hct hko hkl2 hkc1 hkc2 hto htl2 htc1 htc2 hbb hkin;have CL:=Lib.hid (UD p wr.drew kb j (n-j) (kc-j) ib j (ic-j) kl P hko hto hbb (by omega) (by omega) (by omega) (by omega) (by omega) (by omega) (by omega) HP.out hkin HinL.out);have hkbl:=hko.lt;have hibl:=hto.lt;have Hlen:=Lib.hid hkl2;have Hrk:=Lib.hid hrk';have Hkt:=Lib.hid hkt;have Hkin:=Lib.hid hkin;clear hko hto hbb hrk hrk' htop hkin hkl2 htl2 hkt
        go_wp2_with fail
        have hjn:j≤n:=by omega
        have hic:¬ic=j:=by omega
        have hkc:¬kc=j:=by omega
        refine wp_region_still_tail 10 (by kernel_rfl) (by kernel_rfl) ?_;simp only[List.take_succ_cons,List.take_zero,List.drop_succ_cons,List.drop_zero];change wpStill _ _ wr.drew (fun a'=>wpList _ _ _ _ a' wr.drew) _ _
        repeat still_step
        refine wpStill_nil ?_
        go_wp2_with fail
        refine CL.out.mono ?_;rintro e w5 ⟨rfl,hO5,hB5⟩;rw[UE p j (n-j) kl P (by have:=Hlen.out;omega)] at hO5
        have hE':Hid (kE p n g R w w5 S.cols S.piv (ke (jC p) S.cols.length j P Q2 (k+1)) odd cv pv):=Lib.hid (by
         rw[←Hsu.out]
         exact hE.out.setRow Hrk.out hO5 (by rw[QP];exact Hlen.out) (UF (by have:=HP.out.1;omega) j Hkin.out) (jh.dr' hB5))
        clear hO5 hB5 CL hck hct hE
        go_wp2
        go_roundg gh2
        case rel=>exact⟨k+1,by go_num,by have:=Hkk.out;omega,hE'⟩
        case measure=>omega
    ·have hne:((i:Int)==(S.cols.length:Int))=false:=by simp;omega
     have HQ:Hid (jX i S=j9 S.rows i S.cols.length):=Lib.hid (by unfold jX;rw[if_neg hit]);have HO:Hid ((if i=S.cols.length then S.odd else !S.odd) = !S.odd):=Lib.hid (if_neg hit);have hci:=HE.out.mx.cellRow hri;have hct:=HE.out.mx.cellRow hrt;have hfi:=HE.out.mx.own.free i;have hft:=HE.out.mx.own.free S.cols.length;have hgl:=HE.out.mx.own.lt;have HE2:=Lib.hid (HE.out.swap hri hrt);have Hrow:=Lib.hid (Qm hri hrt);rw[←HQ.out] at Hrow HE2;clear HR HQ hri hrt HE hi2 hil;obtain⟨ib,ic,il⟩:=ri;obtain⟨tb,tc,tl⟩:=rt;unfold qz at hci hct HE2;dsimp only at hci hct HE2;generalize hQe:jX i S=Q at *;have HQe:=Lib.hid hQe;clear hQe
     go_upto_region 9 with fail
     go_region
     obtain⟨w2,hw2⟩:∃w2,w2=((w1.setCell ⟨g,i,none⟩ (.slice (some ⟨tb,0,none⟩) n tc)).setCell ⟨g,S.cols.length,none⟩ (.slice (some ⟨ib,0,none⟩) n ic)).drew:=⟨_,rfl⟩
     rw[←hw2] at HE2;rw[←hw2];clear hw2 hci hct hfi hft hgl hit;obtain⟨x0,x1,x2,x3,y0,y1,y2,y3⟩:=HE2.out.res.four;have HE3:=Lib.hid (HE2.out.setOdd (!S.odd));rw[←HO.out] at HE3;have hln:=HE2.out.res.lt;clear HE2
     go_upto_region 11 with fail
     obtain⟨w3,hw3⟩:∃w3,w3=w2.setCell ⟨w.heap.size+1,3,none⟩ (.bool (!S.odd)):=⟨_,rfl⟩
     rw[HO.out,←hw3,←HO.out] at HE3;rw[←hw3];clear hw3 x0 x1 x2 x3 y0 y1 y2 y3 hln w2 HO;generalize hOe:(if i=S.cols.length then S.odd else !S.odd)=odd at *;have HOe:=Lib.hid hOe;clear hOe;have HE:=HE3;clear HE3;have hcr:=HE.out.mx.cellRow Hrow.out;have hcx:=HE.out.mx.cellNum Hrow.out hj2;obtain⟨hro,hrl,hrc1,hrc2⟩:=HE.out.mx.row _ (List.mem_of_getElem? Hrow.out);have hin':=HE.out.inp _ (List.mem_of_getElem? Hrow.out);unfold qz at hcr;dsimp only at hcr hcx hro hrl hrc1 hrc2 hin';have hx:=hin' (il[j]?.getD 0) (by rw[List.getElem?_eq_getElem (by omega)];exact List.getElem_mem (by omega))
     have hx0:0<il[j]?.getD 0:=by have:=Hnz.out;omega
     have DV:=Lib.hid (UZ p (il[j]?.getD 0) w3 ib j (n-j) (ic-j) il hro (by omega) (by omega) (by omega) HP.out hin' ⟨hx0,hx.2⟩);have hbl:=hro.lt;have hgl:=HE.out.mx.own.lt;have Hil:=Lib.hid hrl;clear hro hin' Hnz hx hx0 hrl;generalize hxe:il[j]?.getD 0=x at *;have Hxe:=Lib.hid hxe;clear hxe
     go_wp2_with fail
     refine DV.out.mono ?_;clear DV;rintro e w4 ⟨rfl,hO4,hB4⟩;rw[UW p x j (n-j) il (by have:=Hil.out;omega)] at hO4;have HE4:=Lib.hid (HE.out.setRow Hrow.out hO4 (by rw[Jq];exact Hil.out) (QV (by have:=HP.out.1;omega) x j (HE.out.inp _ (List.mem_of_getElem? Hrow.out))) hB4);clear hO4 hB4 hcr hcx hbl hgl hrc1 hrc2
     go_wp2_with fail
     have Hrow2:=Lib.hid (qA Hrow.out (kf (jC p) x j il));have HL2:Hid ((kf (jC p) x j il).length=n):=Lib.hid (by rw[Jq];exact Hil.out);have HSt:=Lib.hid (YE (F:=jC p) HQe.out Hrow.out Hxe.out HOe.out HE.out.len);have HinL:=Lib.hid (QV (by have:=HP.out.1;omega) x j (HE.out.inp _ (List.mem_of_getElem? Hrow.out)));clear HE Hrow Hxe HQe HOe Hil;generalize kf (jC p) x j il=P at *;generalize setRow Q S.cols.length P=Q2 at *
     go_loopg [70] R.length (fun gh2 i wx=>∃k:Nat,i = .int .i64 k∧k+gh2=R.length∧Hid (kE p n g R w wx S.cols S.piv (ke (jC p) S.cols.length j P Q2 k) odd cv pv))
     case atStart=>exact⟨0,rfl,by omega,Lib.hid (by rw[Yj];exact HE4.out)⟩
     case round=>
      have HQl:Hid (Q2.length=R.length):=Lib.hid HE4.out.len;clear HE4;obtain⟨k,rfl,hkk,hE⟩:=hrel
      cases gk with
      | zero=>
       have hkR:k=R.length:=by omega
       have hkn:¬((k:Int)<(R.length:Int)):=by omega
       have hE5:Hid (kE p n g R w wr S.cols S.piv (ke (jC p) S.cols.length j P Q2 R.length) odd cv pv):=Lib.hid (by rw[←hkR];exact hE.out);clear hE hkk hkR;have hsz:=hE5.out.res.lt
       have hl1:S.piv.length<1000000:=by have:=HS.out;omega
       obtain⟨x0,x1,x2,x3,y0,y1,y2,y3⟩:=hE5.out.res.four
       go_upto_region 20 with (at_builtin;(refine wpList_append_own _ rfl _ _ 50 rfl (w.heap.size+2) 3 i0 (.int .i64 0) 1 8 Tryz.underlying50 hi0 hz0 hz1 hz2 rfl (by decide) _ _ _ rfl (hE5.out.cown.alloc _) ⟨wr.heap.size,0,none⟩ 1 1 [.int .i64 j] rfl rfl (cell_one_new _ _ _) (fun x hx=>by simp at hx;subst hx;rfl) (by unfold maxLen;omega) (by omega) (by simp;omega) ?_;intro v5 w5 hown5 hgrow5 _;obtain⟨A5,c5,rfl,_,_⟩:=j7 hown5;have hA:=hE5.out.addCol hown5 hgrow5;have hXX:=hA.1.four;obtain⟨q0,q1,q2,q3,r0,r1,r2,r3⟩:=hXX;have HE6:=Lib.hid hA.2;clear hA hown5 hgrow5))
       obtain⟨w6,hw6⟩:∃w6,w6=w5.setCell ⟨w.heap.size+1,1,none⟩ (.slice A5 (S.cols.length+1) c5):=⟨_,rfl⟩
       rw[←hw6] at HE6;rw[←hw6];clear hw6 x0 x1 x2 x3 y0 y1 y2 y3 q0 q1 q2 q3 r0 r1 r2 r3 hE5 hsz;have hsz:=HE6.out.res.lt;obtain⟨x0,x1,x2,x3,y0,y1,y2,y3⟩:=HE6.out.res.four
       go_wp2_with (at_builtin;(refine wpList_append_own _ rfl _ _ 192 rfl (w.heap.size+2) 2 j0 (.int .i64 0) 1 8 Tryz.underlying192 hj0 hw0 hw1 hw2 rfl (by decide) _ _ _ rfl (HE6.out.pown.alloc _) ⟨w6.heap.size,0,none⟩ 1 1 [.int .i64 x] rfl rfl (cell_one_new _ _ _) (fun x hx=>by simp at hx;subst hx;rfl) (by unfold maxLen;omega) (by omega) (by simp;omega) ?_;intro v7 w7 hown7 hgrow7 _;obtain⟨A7,c7,rfl,_,_⟩:=j7 hown7;have hA:=HE6.out.addPiv hown7 hgrow7;have hXX:=hA.1.four;obtain⟨q0,q1,q2,q3,r0,r1,r2,r3⟩:=hXX;have HE8:=Lib.hid hA.2;clear hA hown7 hgrow7))
       go_roundg gh
       case rel=>
        have hcl:(jU (jC p) i j S).cols=S.cols++[j]:=by rw[HSt.out]
        exact⟨jU (jC p) i j S,j+1,_,_,by go_num,by rw[hcl,List.length_append];go_num,by rw[hcl,List.length_append];have:=Hk.out;simp;omega,Lib.hid (HE8.out.inv HSt.out HS.out hj2 hlt Hsome.out Hgo.out)⟩
       case measure=>omega
      | succ gh2=>
       have hkl:k<R.length:=by omega
       have hkl':((k:Int)<(R.length:Int)):=by omega
       obtain⟨rk,hrk⟩:∃r,Q2[k]? =some r:=⟨Q2[k]'(by rw[HQl.out];exact hkl),List.getElem?_eq_getElem _⟩
       have hrk':=(QQ (F:=jC p) (R:=Q2) (top:=S.cols.length) (o:=j) (P:=P) k).trans hrk;have hck:=hE.out.mx.cellRow hrk';have hgl:=hE.out.mx.own.lt;have Hkk:=Lib.hid hkk;clear hkk;by_cases hkt:k=S.cols.length
       ·have hkn:((k:Int)==(S.cols.length:Int))=true:=by simp;omega
        have hE':Hid (kE p n g R w wr S.cols S.piv (ke (jC p) S.cols.length j P Q2 (k+1)) odd cv pv):=Lib.hid (by rw[hkt,Yg];have:=hE.out;rw[hkt] at this;exact this);clear hE hkt hrk hrk';obtain⟨kb,kc,kl⟩:=rk;unfold qz at hck;dsimp only at hck
        go_wp2
        go_roundg gh2
        case rel=>exact⟨k+1,by go_num,by have:=Hkk.out;omega,hE'⟩
        case measure=>omega
       ·have hkn:((k:Int)==(S.cols.length:Int))=false:=by simp;omega
        obtain⟨hko,hkl2,hkc1,hkc2⟩:=hE.out.mx.row _ (List.mem_of_getElem? hrk');have htop:=(Yi (F:=jC p) (R:=Q2) (top:=S.cols.length) (o:=j) (P:=P) k).trans Hrow2.out;have hct:=hE.out.mx.cellRow htop;obtain⟨hto,htl2,htc1,htc2⟩:=hE.out.mx.row _ (List.mem_of_getElem? htop);have hbb:ib≠rk.1:=Y8 hE.out.mx.apart htop hrk' (fun e=>hkt e.symm);have hkin:=hE.out.inp _ (List.mem_of_getElem? hrk');have Hsu:=Lib.hid (Yh (F:=jC p) (top:=S.cols.length) (o:=j) (P:=P) hkt hrk);obtain⟨kb,kc,kl⟩:=rk;unfold qz at hck hct;dsimp only at hck hct hko hkl2 hkc1 hkc2 hto htl2 htc1 htc2 hbb hkin;have CL:=Lib.hid (UD p wr.drew kb j (n-j) (kc-j) ib j (ic-j) kl P hko hto hbb (by omega) (by omega) (by omega) (by omega) (by omega) (by omega) (by omega) HP.out hkin HinL.out);have hkbl:=hko.lt;have hibl:=hto.lt;have Hlen:=Lib.hid hkl2;have Hrk:=Lib.hid hrk';have Hkt:=Lib.hid hkt;have Hkin:=Lib.hid hkin;clear hko hto hbb hrk hrk' htop hkin hkl2 htl2 hkt
        go_wp2_with fail
        have hjn:j≤n:=by omega
        have hic:¬ic=j:=by omega
        have hkc:¬kc=j:=by omega
        refine wp_region_still_tail 10 (by kernel_rfl) (by kernel_rfl) ?_;simp only[List.take_succ_cons,List.take_zero,List.drop_succ_cons,List.drop_zero];change wpStill _ _ wr.drew (fun a'=>wpList _ _ _ _ a' wr.drew) _ _
        repeat still_step
        refine wpStill_nil ?_
        go_wp2_with fail
        refine CL.out.mono ?_;rintro e w5 ⟨rfl,hO5,hB5⟩;rw[UE p j (n-j) kl P (by have:=Hlen.out;omega)] at hO5
        have hE':Hid (kE p n g R w w5 S.cols S.piv (ke (jC p) S.cols.length j P Q2 (k+1)) odd cv pv):=Lib.hid (by
         rw[←Hsu.out]
         exact hE.out.setRow Hrk.out hO5 (by rw[QP];exact Hlen.out) (UF (by have:=HP.out.1;omega) j Hkin.out) (jh.dr' hB5))
        clear hO5 hB5 CL hck hct hE
        go_wp2
        go_roundg gh2
        case rel=>exact⟨k+1,by go_num,by have:=Hkk.out;omega,hE'⟩
        case measure=>omega
   ·have hgo:Hid (S=jH (jC p) n R.length 0 ⟨R,[],[],false⟩):=Lib.hid (by
     rw[←hE.out.go]
     exact(Vb (by omega) (Ws _ _ (fun c h1 h2 t h3 h4=>by rw[Xt,hcl c h1 (by have:=hE.out.hfr;omega) t h3 h4];rfl))).symm)
    clear hE hB1 hcl;have hE:=hE1;clear hE1;obtain⟨A1,k1,hcv,_,_⟩:=j7 hE.out.cown;obtain⟨A2,k2,hpv,hk2,_⟩:=j7 hE.out.pown
    have hpl:S.piv.length≤c:=by rw[hE.out.same];omega
    obtain⟨x0,x1,x2,x3,y0,y1,y2,y3⟩:=hE.out.res.four;obtain⟨z0,z1,z2,z3,v0,v1,v2,v3⟩:=hE.out.out.four;have hF:=Lib.hid (fun (wf:World) e h1 h2 h3=>U7 (c:=c) (wf:=wf) (e:=e) HM.out hE.out (by omega) hgo.out h1 h2 h3);subst hcv hpv;clear hE hgo
    go_wp2
    exact bodyPost_ret (v:= .agg #[.slice (some ⟨g,0,none⟩) S.piv.length c,.slice A1 S.cols.length k1,.slice A2 S.piv.length k2,.bool S.odd]) (by simp[results,Tryz.results163,go_sem,z0,z1,z2,z3]) rfl (hF.out _ _ (by
      exact((((((Below.refl w.heap.size w1).setCell (by simp) _).setCell (by simp) _).setCell (by simp) _).setCell (by simp) _).setCell (by simp) _))
     (fun k hk=>by simp only[World.setCell,Array.getElem?_modify];rw[if_neg (by omega),if_neg (by omega),if_neg (by omega),if_neg (by omega),if_neg (by omega)]) rfl)
