/- Contract: eliminate over the residues. -/
import Derived.Test.YtneafcdfnhnpnaaGreatDoorZK07
import Derived.StillTailTactics
set_option maxRecDepth 100000
set_option maxHeartbeats 4000000
namespace Go.Proofs.YtneafcdfnhnpnaaGreatDoor
open Go.RowKit
def jp (L:List Nat):List Value:=L.map fun (x:Nat)=>Value.int .i64 (x:Int)
theorem xW (L:List Nat) (x:Nat):jp (L++[x])=jp L++[.int .i64 (x:Int)]:=by simp[jp]
theorem TU (L:List Int) (x:Int):jc (L++[x])=jc L++[.int .i64 x]:=by simp[jc]
theorem T7:(Tryz.prog.info? 2).map (fun i=>(i.zero,i.size,i.bytes))=some (some (.int .i64 0),1,8):=by kernel_rfl
abbrev jr:Value:= .slice none 0 0
structure zo (p:Int) (n g:Nat) (R:List jS) (w wr:World) (S:jP Int) (fr:Nat) (cv pv:Value):Prop where
 mx:kd wr g S.rows n
 out:ja wr w.heap.size 194 [jr,jr,jr,.bool false]
 res:ja wr (w.heap.size+1) 194 [jr,cv,pv,.bool S.odd]
 cown:wr.ownsRow (w.heap.size+2) 3 1 cv S.cols.length (jp S.cols)
 pown:wr.ownsRow (w.heap.size+2) 2 1 pv S.piv.length (jc S.piv)
 same:S.piv.length=S.cols.length
 len:S.rows.length=R.length
 perm:List.Perm (S.rows.map (·.1)) (R.map (·.1))
 inp:xN p S.rows
 hfr:fr≤n
 go:j3 (jC p) n (R.length-S.cols.length) fr S=j3 (jC p) n R.length 0 ⟨R,[],[],false⟩
 buts:jO (g::R.map (·.1)) w wr
def YJ (p:Int) (n g c:Nat) (R:List jS) (w:World) (e:Ending) (w':World):Prop:=
 ∃S,S=j3 (jC p) n R.length 0 ⟨R,[],[],false⟩ ∧ ∃cv pv,e = .returned (.agg #[.slice (some ⟨g,0,none⟩) S.piv.length c,cv,pv,.bool S.odd]) ∧
  kd w' g S.rows n∧w'.ownsRow w.heap.size 3 1 cv S.cols.length (jp S.cols)∧w'.ownsRow w.heap.size 2 1 pv S.piv.length (jc S.piv) ∧
  S.piv.length=S.cols.length∧S.piv.length≤S.rows.length∧S.rows.length=R.length∧List.Perm (S.rows.map (·.1)) (R.map (·.1))∧xN p S.rows∧jO (g::R.map (·.1)) w w'
theorem jO.belowAt {s:List Nat} {a b c:World} (h:jO s a b) (k:Below a.heap.size b c):jO s a c:=
 ⟨k.os.trans h.os,k.tape.trans h.tape,k.output.trans h.output,Nat.le_trans h.size k.size,fun i hi hs=>(k.block i hi).trans (h.block i hi hs)⟩
theorem JA {w:World} {base base':Nat} {e:TypeId} {size:Nat} {v:Value} {n:Nat} {xs:List Value} (h:w.ownsRow base e size v n xs) (hb:base'≤base):w.ownsRow base' e size v n xs:=by
 refine⟨h.1,?_⟩
 rcases h.2 with hn | ⟨g,cap,cur,h1,h2,rest⟩
 ·exact .inl hn
 ·exact .inr ⟨g,cap,cur,h1,Nat.le_trans hb h2,rest⟩
theorem zo.below {p:Int} {n g:Nat} {R:List jS} {w wr w1:World} {S:jP Int} {fr:Nat} {cv pv:Value} (h:zo p n g R w wr S fr cv pv) (hb:Below wr.heap.size wr w1):zo p n g R w w1 S fr cv pv:=
 ⟨h.mx.below hb,h.out.below hb h.out.lt,h.res.below hb h.res.lt,kC h.cown hb,kC h.pown hb,h.same,h.len,h.perm,h.inp,h.hfr,h.go,h.buts.below hb⟩
theorem Va {T:Type} {F:Fd T} {n k fr:Nat} {S:jP T} (hk:0<k) (h:qN F S.rows S.cols.length (n-fr) fr=none):j3 F n k fr S=S:=by
 obtain⟨j,rfl⟩:∃j,k=j+1:=⟨k-1,by omega⟩
 unfold j3;rw[h]
theorem Vb {T:Type} {F:Fd T} {n k fr row col:Nat} {S:jP T} (h:qN F S.rows S.cols.length (n-fr) fr=some (row,col)):j3 F n (k+1) fr S=j3 F n k (col+1) (kW F row col S):=by
 conv=>lhs;unfold j3
 rw[h]
theorem Xy {p:Int} {R:List jS} {i j:Nat} :(jC p).isZ (kB (jC p) R i j)=(zF R i j==0):=rfl
structure kD (p:Int) (n g:Nat) (R:List jS) (w wr:World) (C:List Nat) (V:List Int) (Q:List jS) (odd:Bool) (cv pv:Value):Prop where
 mx:kd wr g Q n
 out:ja wr w.heap.size 194 [jr,jr,jr,.bool false]
 res:ja wr (w.heap.size+1) 194 [jr,cv,pv,.bool odd]
 cown:wr.ownsRow (w.heap.size+2) 3 1 cv C.length (jp C)
 pown:wr.ownsRow (w.heap.size+2) 2 1 pv V.length (jc V)
 len:Q.length=R.length
 perm:List.Perm (Q.map (·.1)) (R.map (·.1))
 inp:xN p Q
 lt:∀k,k=g∨k∈R.map (·.1)→k<w.heap.size
 buts:jO (g::R.map (·.1)) w wr
section
variable {p:Int} {n g:Nat} {R Q:List jS} {w w1 w2:World} {S:jP Int} {C:List Nat} {V:List Int} {fr i:Nat} {odd:Bool} {cv pv:Value}
theorem zo.mid (HM:kd w g R n) (h:zo p n g R w w1 S fr cv pv):kD p n g R w w1 S.cols S.piv S.rows S.odd cv pv:=
 ⟨h.mx,h.out,h.res,h.cown,h.pown,h.len,h.perm,h.inp,fun _ hk=>HM.lt hk,h.buts⟩
theorem kD.swap (h:kD p n g R w w1 C V Q odd cv pv) {i j:Nat} {a b:jS} (hi:Q[i]? =some a) (hj:Q[j]? =some b):
  kD p n g R w (((w1.setCell ⟨g,i,none⟩ (qy n b)).setCell ⟨g,j,none⟩ (qy n a)).drew) C V (qu Q i j) odd cv pv:=by
 have hg:=h.lt g (.inl rfl);refine⟨(h.mx.swap hi hj).keep (fun _ _=>rfl),?_,?_,?_,?_,by rw[GN,h.len],((XN Q i j).map _).trans h.perm,h.inp.swap i j,h.lt,(((h.buts.setCell _ (by simp) _).setCell _ (by simp) _).drew)⟩
 ·exact(h.out.other (p:=⟨g,i,none⟩) (fun e=>by simp at e;omega) _).other (p:=⟨g,j,none⟩) (fun e=>by simp at e;omega) _
 ·exact(h.res.other (p:=⟨g,i,none⟩) (fun e=>by simp at e;omega) _).other (p:=⟨g,j,none⟩) (fun e=>by simp at e;omega) _
 ·exact yf (yf h.cown ⟨g,i,none⟩ (by simp;omega) _) ⟨g,j,none⟩ (by simp;omega) _
 ·exact yf (yf h.pown ⟨g,i,none⟩ (by simp;omega) _) ⟨g,j,none⟩ (by simp;omega) _
theorem kD.setOdd (h:kD p n g R w w1 C V Q odd cv pv) (b:Bool):kD p n g R w (w1.setCell ⟨w.heap.size+1,3,none⟩ (.bool b)) C V Q b cv pv:=by
 refine⟨h.mx.keep (fun k hk=>Below.heap_setCell _ _ _ _ (by
   have:=h.lt k (hk.imp id fun x=>h.perm.mem_iff.1 x);simp;omega)),h.out.other (p:=⟨w.heap.size+1,3,none⟩) (fun e=>by simp at e) _,?_,yf h.cown ⟨w.heap.size+1,3,none⟩ (by simp) _,yf h.pown ⟨w.heap.size+1,3,none⟩ (by simp) _,h.len,h.perm,h.inp,h.lt,h.buts.setNew _ (by simp) _⟩
 have:=h.res.put 3 (.bool b);exact this
theorem kD.below (h:kD p n g R w w1 C V Q odd cv pv) (hb:Below w1.heap.size w1 w2):kD p n g R w w2 C V Q odd cv pv:=
 ⟨h.mx.below hb,h.out.below hb h.out.lt,h.res.below hb h.res.lt,kC h.cown hb,kC h.pown hb,h.len,h.perm,h.inp,h.lt,h.buts.below hb⟩
theorem kD.setRow (h:kD p n g R w w1 C V Q odd cv pv) {r:jS} (hr:Q[i]? =some r) {L:List Int} (hO:ja w2 r.1 2 (jc L)) (hl:L.length=n) (hL:∀x∈L,0≤x∧x<p) (hb:jh r.1 w1 w2):
  kD p n g R w w2 C V (setRow Q i L) odd cv pv:=by
 have hrb:r.1∈R.map (·.1):=h.perm.mem_iff.1 (List.mem_map_of_mem (List.mem_of_getElem? hr));have hlt:=h.lt r.1 (.inr hrb);exact⟨h.mx.setRow hr hO hl hb,h.out.but hb (by omega),h.res.but hb (by omega),K6 h.cown hb (by omega),K6 h.pown hb (by omega),by rw[ZA];exact h.len,by rw[Ql];exact h.perm,h.inp.set i hL,h.lt,h.buts.but hb (List.mem_cons_of_mem _ hrb)⟩
theorem UK {B:Nat} {a:World} {e e':TypeId} {v v':Value} {n n':Nat} {xs xs':List Value} (h:a.ownsRow B e 1 v n xs) (h':a.ownsRow B e' 1 v' n' xs') (hee:e≠e') (k:Nat) (hk:v.ownBlock=some k):v'.ownBlock≠some k:=by
 intro hk'
 rcases h.2 with ⟨rfl,_⟩ | ⟨g,cap,cur,rfl,_,hg,_⟩
 ·simp[Value.ownBlock] at hk
 ·rcases h'.2 with ⟨rfl,_⟩ | ⟨g',cap',cur',rfl,_,hg',_⟩
  ·simp[Value.ownBlock] at hk'
  ·simp[Value.ownBlock] at hk hk'
   subst hk hk';rw[hg] at hg'
   injection hg' with hg'
   injection hg' with _ hg'
   exact hee hg'
theorem kD.addCol (h:kD p n g R w w1 C V Q odd cv pv) {o:Obj} {v5:Value} {j:Nat} (hown:w2.ownsRow (w.heap.size+2) 3 1 v5 (C.length+1) (jp C++[.int .i64 (j:Int)])) (hg:(w1.alloc o).grownBy w2 cv.ownBlock):
  ja w2 (w.heap.size+1) 194 [jr,cv,pv,.bool odd]∧kD p n g R w (w2.setCell ⟨w.heap.size+1,1,none⟩ v5) (C++[j]) V Q odd v5 pv:=by
 have ha:Below w1.heap.size w1 (w1.alloc o):=(Below.refl _ _).alloc (Nat.le_refl _) _;have hm:=h.below ha
 have hcv:∀k,cv.ownBlock=some k→w.heap.size+2≤k:=fun k hk=>(hm.cown.lt k hk).1
 have hX:=hm.res.grown hg (fun e=>by have:=hcv _ e;omega);have hlt:=h.lt;refine⟨hX,hm.mx.keep (fun k hk=> ?_),?_,hX.put 1 v5,?_,?_,h.len,h.perm,h.inp,h.lt,(hm.buts.grown hg (fun k hk=>by have:=hcv k hk;omega)).setNew _ (by simp) _⟩
 ·have hk':=h.lt k (hk.imp id fun x=>h.perm.mem_iff.1 x)
  exact(Below.heap_setCell _ _ _ _ (by simp;omega)).trans (hg.block k (by have:=hm.res.lt;omega) (fun e=>by have:=hcv k e.symm;omega))
 ·exact(hm.out.grown hg (fun e=>by have:=hcv _ e;omega)).other (p:=⟨w.heap.size+1,1,none⟩) (fun e=>by simp at e) _
 ·rw[xW,List.length_append]
  exact yf hown ⟨w.heap.size+1,1,none⟩ (by simp) _
 ·refine yf (hm.pown.kept hg ?_) ⟨w.heap.size+1,1,none⟩ (by simp) _
  cases hp:pv.ownBlock with
  | none=>exact .inl rfl
  | some k=>exact .inr (fun e=>UK hm.pown hm.cown (by decide) k hp e.symm)
theorem kD.addPiv (h:kD p n g R w w1 C V Q odd cv pv) {o:Obj} {v5:Value} {x:Int} (hown:w2.ownsRow (w.heap.size+2) 2 1 v5 (V.length+1) (jc V++[.int .i64 x])) (hg:(w1.alloc o).grownBy w2 pv.ownBlock):
  ja w2 (w.heap.size+1) 194 [jr,cv,pv,.bool odd]∧kD p n g R w (w2.setCell ⟨w.heap.size+1,2,none⟩ v5) C (V++[x]) Q odd cv v5:=by
 have ha:Below w1.heap.size w1 (w1.alloc o):=(Below.refl _ _).alloc (Nat.le_refl _) _;have hm:=h.below ha
 have hcv:∀k,pv.ownBlock=some k→w.heap.size+2≤k:=fun k hk=>(hm.pown.lt k hk).1
 have hX:=hm.res.grown hg (fun e=>by have:=hcv _ e;omega);have hlt:=h.lt;refine⟨hX,hm.mx.keep (fun k hk=> ?_),?_,hX.put 2 v5,?_,?_,h.len,h.perm,h.inp,h.lt,(hm.buts.grown hg (fun k hk=>by have:=hcv k hk;omega)).setNew _ (by simp) _⟩
 ·have hk':=h.lt k (hk.imp id fun x=>h.perm.mem_iff.1 x)
  exact(Below.heap_setCell _ _ _ _ (by simp;omega)).trans (hg.block k (by have:=hm.res.lt;omega) (fun e=>by have:=hcv k e.symm;omega))
 ·exact(hm.out.grown hg (fun e=>by have:=hcv _ e;omega)).other (p:=⟨w.heap.size+1,2,none⟩) (fun e=>by simp at e) _
 ·refine yf (hm.cown.kept hg ?_) ⟨w.heap.size+1,2,none⟩ (by simp) _
  cases hp:cv.ownBlock with
  | none=>exact .inl rfl
  | some k=>exact .inr (fun e=>UK hm.cown hm.pown (by decide) k hp e.symm)
 ·rw[TU,List.length_append]
  exact yf hown ⟨w.heap.size+1,2,none⟩ (by simp) _
theorem YI {T:Type} {F:Fd T} {S:jP T} {Q:List (jZ T)} {i j m ib ic:Nat} {il:List T} {x:T} {odd:Bool} (hQ:qp i S=Q) (hr:Q[S.cols.length]? =some (ib,ic,il)) (hx:il[j]?.getD F.z=x) (ho:(if i=S.cols.length then S.odd else !S.odd)=odd) (hm:Q.length=m):
  kW F i j S=⟨kz F S.cols.length j (kR F x j il) (setRow Q S.cols.length (kR F x j il)) m,S.cols++[j],S.piv++[x],odd⟩:=by
 have e1:elPiv F i j S=x:=by unfold elPiv kB;rw[hQ,zf hr];exact hx
 have e2:elDiv F i j S=setRow Q S.cols.length (kR F x j il):=by unfold elDiv;rw[e1,hQ,zf hr]
 have e3:xJ (elDiv F i j S) S.cols.length=kR F x j il:=by rw[e2,zf (xt hr _)]
 unfold kW;rw[e3,e1,e2,ho,ZA,hm]
theorem kD.inv {wf:World} {i j:Nat} {Q':List jS} {x:Int} (h:kD p n g R w wf (S.cols++[j]) (S.piv++[x]) Q' odd cv pv) (hS:kW (jC p) i j S=⟨Q',S.cols++[j],S.piv++[x],odd⟩) (hs:S.piv.length=S.cols.length) (hj:j<n) (hl:S.cols.length<R.length)
  (hp:qN (jC p) S.rows S.cols.length (n-fr) fr=some (i,j)) (hgo:j3 (jC p) n (R.length-S.cols.length) fr S=j3 (jC p) n R.length 0 ⟨R,[],[],false⟩):zo p n g R w wf (kW (jC p) i j S) (j+1) cv pv:=by
 have hgo':j3 (jC p) n (R.length-(S.cols++[j]).length) (j+1) (kW (jC p) i j S)=j3 (jC p) n R.length 0 ⟨R,[],[],false⟩:=by
  rw[←hgo,show R.length-S.cols.length=(R.length-(S.cols++[j]).length)+1 by simp;omega,Vb hp]
 rw[hS] at hgo' ⊢;exact⟨h.mx,h.out,h.res,h.cown,h.pown,by simp[hs],h.len,h.perm,h.inp,hj,hgo',h.buts⟩
theorem jh.dr' {g:Nat} {a b:World} (h:jh g a.drew b):jh g a b:=⟨h.os,h.tape,h.output,h.size,h.block⟩
end
theorem U8 {p:Int} {n g c:Nat} {R:List jS} {w wr wf:World} {S:jP Int} {fr:Nat} {cv pv:Value} {e:Ending} (HM:kd w g R n) (hE:zo p n g R w wr S fr cv pv) (hS:S.cols.length≤R.length)
  (hgo:S=j3 (jC p) n R.length 0 ⟨R,[],[],false⟩) (hB:Below w.heap.size wr wf) (h2:∀k,w.heap.size+2≤k→wf.heap[k]? =wr.heap[k]?) (he:e = .returned (.agg #[.slice (some ⟨g,0,none⟩) S.piv.length c,cv,pv,.bool S.odd])):YJ p n g c R w e wf:=by
 have hlt:∀k,k=g∨k∈S.rows.map (·.1)→k<w.heap.size:=fun k hk=>HM.lt (hk.imp id fun h=>hE.perm.mem_iff.1 h)
 refine⟨S,hgo,cv,pv,he,hE.mx.keep (fun k hk=>hB.block k (hlt k hk)),?_,?_,hE.same,?_,hE.len,hE.perm,hE.inp,hE.buts.belowAt hB⟩
 ·exact JA (xh hE.cown fun k _ hv=>h2 k (hE.cown.lt k hv).1) (by omega)
 ·exact JA (xh hE.pown fun k _ hv=>h2 k (hE.pown.lt k hv).1) (by omega)
 ·rw[hE.same,hE.len];exact hS
theorem S4 (p:Int) (g c n:Nat) (R:List jS) (w:World) (hM:kd w g R n) (hc:R.length≤c) (hc2:c≤1000000) (hn:n≤1000000) (hp:PF p) (hI:xN p R):
  Calls Tryz.prog 163 #[.iface 197 (.agg #[.int .i64 p]),.slice (some ⟨g,0,none⟩) R.length c] w (YJ p n g c R w):=by
 have HM:=Lib.hid hM;have HI:=Lib.hid hI;have HP:=Lib.hid hp;clear hM hI hp;obtain⟨i0,hi0,hz0,hz1,hz2⟩:=info_parts yc;obtain⟨j0,hj0,hw0,hw1,hw2⟩:=info_parts T7;go_enter Tryz.func163,Tryz.ntmps163
 go_wp2_with fail
 go_loopg [6,17] R.length (fun gh f i wr=>∃(S:jP Int) (fr:Nat) (cv pv:Value),f = .int .i64 fr∧i = .int .i64 (S.cols.length:Nat)∧S.cols.length+gh=R.length∧Hid (zo p n g R w wr S fr cv pv))
 case atStart=>
  refine⟨⟨R,[],[],false⟩,0,jr,jr,rfl,rfl,by simp,Lib.hid ?_⟩;have hb:Below w.heap.size w ((w.alloc (.cells #[jr,jr,jr,.bool false] 194)).alloc (.cells #[jr,jr,jr,.bool false] 194)):=((Below.refl _ _).alloc (Nat.le_refl _) _).alloc (by simp) _;exact⟨HM.out.below hb,(ja.make w _ [jr,jr,jr,.bool false]).alloc _,by have:=ja.make (w.alloc (.cells #[jr,jr,jr,.bool false] 194)) 194 [jr,jr,jr,.bool false];simpa using this,World.ownsRow_nil _ _ _ _,World.ownsRow_nil _ _ _ _,rfl,rfl,List.Perm.refl _,HI.out,by omega,rfl,jO.of_below hb⟩
 case round=>
  obtain⟨S,fr,cv,pv,rfl,rfl,hk,hE⟩:=hrel
  cases gk with
  | zero=>
   have hin:¬((S.cols.length:Int)<(R.length:Int)):=by omega
   have hgo:Hid (S=j3 (jC p) n R.length 0 ⟨R,[],[],false⟩):=Lib.hid (by
    have h:=hE.out.go;rw[show R.length-S.cols.length=0 by omega] at h
    exact h)
   obtain⟨A1,k1,hcv,_,_⟩:=j8 hE.out.cown;obtain⟨A2,k2,hpv,hk2,_⟩:=j8 hE.out.pown
   have hpl:S.piv.length≤c:=by rw[hE.out.same];omega
   obtain⟨x0,x1,x2,x3,y0,y1,y2,y3⟩:=hE.out.res.four;obtain⟨z0,z1,z2,z3,v0,v1,v2,v3⟩:=hE.out.out.four;have hF:=Lib.hid (fun (wf:World) e h1 h2 h3=>U8 (c:=c) (wf:=wf) (e:=e) HM.out hE.out (by omega) hgo.out h1 h2 h3);subst hcv hpv;clear hE hgo
   go_wp2
   exact bodyPost_ret (v:= .agg #[.slice (some ⟨g,0,none⟩) S.piv.length c,.slice A1 S.cols.length k1,.slice A2 S.piv.length k2,.bool S.odd]) (by simp[results,Tryz.results163,go_sem,z0,z1,z2,z3]) rfl (hF.out _ _ (by
     exact((((((Below.refl w.heap.size wr).setCell (by simp) _).setCell (by simp) _).setCell (by simp) _).setCell (by simp) _).setCell (by simp) _))
    (fun k hk=>by simp only[World.setCell,Array.getElem?_modify];rw[if_neg (by omega),if_neg (by omega),if_neg (by omega),if_neg (by omega),if_neg (by omega)]) rfl)
  | succ gh=>
   have hin:((S.cols.length:Int)<(R.length:Int)):=by omega
   have hlt:S.cols.length<R.length:=by omega
   have Hk:=Lib.hid hk;clear hk
   have NP:Hid (Calls Tryz.prog 211 #[.iface 197 (.agg #[.int .i64 p]),.slice (some ⟨g,0,none⟩) R.length c,.int .i64 (S.cols.length:Nat),.int .i64 fr] wr (Ws S.rows n S.cols.length fr wr)):=Lib.hid (by
    have h:=Dd p g c n S.rows wr S.cols.length fr hE.out.mx (by intro e;have:=hE.out.len;rw[e] at this;simp at this;omega) (by rw[hE.out.len];exact hc) hc2 (by rw[hE.out.len];omega) hE.out.hfr hn;rw[hE.out.len] at h
    exact h)
   go_wp2_with fail
   refine NP.out.mono ?_;clear NP;rintro e w1 ⟨hB1,h⟩;have hE1:Hid (zo p n g R w w1 S fr cv pv):=Lib.hid (hE.out.below hB1)
   rcases h with ⟨i,j,rfl,hi1,hi2,hj1,hj2,hnz,habove,hcl⟩ | ⟨i,j,rfl,hcl⟩
   ·clear hE
    have hE:=hE1;clear hE1 hB1;have hil:i<S.rows.length:=hi2
    obtain⟨ri,hri⟩:∃r,S.rows[i]? =some r:=⟨S.rows[i],List.getElem?_eq_getElem hil⟩
    obtain⟨rt,hrt⟩:∃r,S.rows[S.cols.length]? =some r:=⟨S.rows[S.cols.length]'(by rw[hE.out.len];exact hlt),List.getElem?_eq_getElem _⟩
    have hiR:i<R.length:=by rw[←hE.out.len];exact hil
    have Hsome:=Lib.hid (Wq (F:=jC p) (R:=S.rows) (n-fr) fr hj1 (by have:=hE.out.hfr;omega) hi1 hil (by rw[Xy];simpa using hnz) (fun t h1 h2=>by rw[Xy,habove t h1 h2];rfl) (fun c h1 h2 t h3 h4=>by rw[Xy,hcl c h1 h2 t h3 h4];rfl));have Hnz:Hid (ri.2.2[j]?.getD 0≠0):=Lib.hid (by rw[←We hri];exact hnz);have HS:=Lib.hid hE.out.same;have Hgo:=Lib.hid hE.out.go;have HR:=Lib.hid (Eq.refl S.rows);clear habove hcl hnz;have HE:=Lib.hid (hE.out.mid HM.out);clear hE;by_cases hit:i=S.cols.length
    ·have hne:((i:Int)==(S.cols.length:Int))=true:=by simp;omega
     have HQ:Hid (qp i S=S.rows):=Lib.hid (by unfold qp;rw[if_pos hit]);have HO:Hid ((if i=S.cols.length then S.odd else !S.odd)=S.odd):=Lib.hid (if_pos hit);have Hrow:Hid (S.rows[S.cols.length]? =some ri):=Lib.hid (hit ▸ hri);clear hri hrt hit hi2 hil;rw[←HQ.out] at Hrow HE;rw[←HO.out] at HE;clear HR HQ HO;generalize hQe:qp i S=Q at *;have HQe:=Lib.hid hQe;clear hQe;obtain⟨ib,ic,il⟩:=ri;generalize hOe:(if i=S.cols.length then S.odd else !S.odd)=odd at *;have HOe:=Lib.hid hOe;clear hOe
     obtain⟨w3,rfl⟩:∃w3,w3=w1:=⟨_,rfl⟩
     go_upto_region 11 with fail
     have hcr:=HE.out.mx.cellRow Hrow.out;have hcx:=HE.out.mx.cellNum Hrow.out hj2;obtain⟨hro,hrl,hrc1,hrc2⟩:=HE.out.mx.row _ (List.mem_of_getElem? Hrow.out);have hin':=HE.out.inp _ (List.mem_of_getElem? Hrow.out);unfold qy at hcr;dsimp only at hcr hcx hro hrl hrc1 hrc2 hin';have hx:=hin' (il[j]?.getD 0) (by rw[List.getElem?_eq_getElem (by omega)];exact List.getElem_mem (by omega))
     have hx0:0<il[j]?.getD 0:=by have:=Hnz.out;omega
     have DV:=Lib.hid (U0 p (il[j]?.getD 0) w3 ib j (n-j) (ic-j) il hro (by omega) (by omega) (by omega) HP.out hin' ⟨hx0,hx.2⟩);have hbl:=hro.lt;have hgl:=HE.out.mx.own.lt;have Hil:=Lib.hid hrl;clear hro hin' Hnz hx hx0 hrl;generalize hxe:il[j]?.getD 0=x at *;have Hxe:=Lib.hid hxe;clear hxe
     go_wp2_with fail
     refine DV.out.mono ?_;clear DV;rintro e w4 ⟨rfl,hO4,hB4⟩;rw[UY p x j (n-j) il (by have:=Hil.out;omega)] at hO4;have HE4:=Lib.hid (HE.out.setRow Hrow.out hO4 (by rw[J6];exact Hil.out) (QX (by have:=HP.out.1;omega) x j (HE.out.inp _ (List.mem_of_getElem? Hrow.out))) hB4);clear hO4 hB4 hcr hcx hbl hgl hrc1 hrc2
     go_wp2_with fail
     have Hrow2:=Lib.hid (xt Hrow.out (kR (jC p) x j il));have HL2:Hid ((kR (jC p) x j il).length=n):=Lib.hid (by rw[J6];exact Hil.out);have HSt:=Lib.hid (YI (F:=jC p) HQe.out Hrow.out Hxe.out HOe.out HE.out.len);have HinL:=Lib.hid (QX (by have:=HP.out.1;omega) x j (HE.out.inp _ (List.mem_of_getElem? Hrow.out)));clear HE Hrow Hxe HQe HOe Hil;generalize kR (jC p) x j il=P at *;generalize setRow Q S.cols.length P=Q2 at *
     go_loopg [70] R.length (fun gh2 i wx=>∃k:Nat,i = .int .i64 k∧k+gh2=R.length∧Hid (kD p n g R w wx S.cols S.piv (kz (jC p) S.cols.length j P Q2 k) odd cv pv))
     case atStart=>exact⟨0,rfl,by omega,Lib.hid (by rw[Yr];exact HE4.out)⟩
     case round=>
      have HQl:Hid (Q2.length=R.length):=Lib.hid HE4.out.len;clear HE4;obtain⟨k,rfl,hkk,hE⟩:=hrel
      cases gk with
      | zero=>
       have hkR:k=R.length:=by omega
       have hkn:¬((k:Int)<(R.length:Int)):=by omega
       have hE5:Hid (kD p n g R w wr S.cols S.piv (kz (jC p) S.cols.length j P Q2 R.length) odd cv pv):=Lib.hid (by rw[←hkR];exact hE.out);clear hE hkk hkR;have hsz:=hE5.out.res.lt
       have hl1:S.piv.length<1000000:=by have:=HS.out;omega
       obtain⟨x0,x1,x2,x3,y0,y1,y2,y3⟩:=hE5.out.res.four
       go_upto_region 20 with (at_builtin;(refine wpList_append_own _ rfl _ _ 50 rfl (w.heap.size+2) 3 i0 (.int .i64 0) 1 8 Tryz.underlying50 hi0 hz0 hz1 hz2 rfl (by decide) _ _ _ rfl (hE5.out.cown.alloc _) ⟨wr.heap.size,0,none⟩ 1 1 [.int .i64 j] rfl rfl (cell_one_new _ _ _) (fun x hx=>by simp at hx;subst hx;rfl) (by unfold maxLen;omega) (by omega) (by simp;omega) ?_;intro v5 w5 hown5 hgrow5 _;obtain⟨A5,c5,rfl,_,_⟩:=j8 hown5;have hA:=hE5.out.addCol hown5 hgrow5;have hXX:=hA.1.four;obtain⟨q0,q1,q2,q3,r0,r1,r2,r3⟩:=hXX;have HE6:=Lib.hid hA.2;clear hA hown5 hgrow5))
       obtain⟨w6,hw6⟩:∃w6,w6=w5.setCell ⟨w.heap.size+1,1,none⟩ (.slice A5 (S.cols.length+1) c5):=⟨_,rfl⟩
       rw[←hw6] at HE6;rw[←hw6];clear hw6 x0 x1 x2 x3 y0 y1 y2 y3 q0 q1 q2 q3 r0 r1 r2 r3 hE5 hsz;have hsz:=HE6.out.res.lt;obtain⟨x0,x1,x2,x3,y0,y1,y2,y3⟩:=HE6.out.res.four
       go_wp2_with (at_builtin;(refine wpList_append_own _ rfl _ _ 192 rfl (w.heap.size+2) 2 j0 (.int .i64 0) 1 8 Tryz.underlying192 hj0 hw0 hw1 hw2 rfl (by decide) _ _ _ rfl (HE6.out.pown.alloc _) ⟨w6.heap.size,0,none⟩ 1 1 [.int .i64 x] rfl rfl (cell_one_new _ _ _) (fun x hx=>by simp at hx;subst hx;rfl) (by unfold maxLen;omega) (by omega) (by simp;omega) ?_;intro v7 w7 hown7 hgrow7 _;obtain⟨A7,c7,rfl,_,_⟩:=j8 hown7;have hA:=HE6.out.addPiv hown7 hgrow7;have hXX:=hA.1.four;obtain⟨q0,q1,q2,q3,r0,r1,r2,r3⟩:=hXX;have HE8:=Lib.hid hA.2;clear hA hown7 hgrow7))
       go_roundg gh
       case rel=>
        have hcl:(kW (jC p) i j S).cols=S.cols++[j]:=by rw[HSt.out]
        exact⟨kW (jC p) i j S,j+1,_,_,by go_num,by rw[hcl,List.length_append];go_num,by rw[hcl,List.length_append];have:=Hk.out;simp;omega,Lib.hid (HE8.out.inv HSt.out HS.out hj2 hlt Hsome.out Hgo.out)⟩
       case measure=>omega
      | succ gh2=>
       have hkl:k<R.length:=by omega
       have hkl':((k:Int)<(R.length:Int)):=by omega
       obtain⟨rk,hrk⟩:∃r,Q2[k]? =some r:=⟨Q2[k]'(by rw[HQl.out];exact hkl),List.getElem?_eq_getElem _⟩
       have hrk':=(QR (F:=jC p) (R:=Q2) (top:=S.cols.length) (o:=j) (P:=P) k).trans hrk;have hck:=hE.out.mx.cellRow hrk';have hgl:=hE.out.mx.own.lt;have Hkk:=Lib.hid hkk;clear hkk;by_cases hkt:k=S.cols.length
       ·have hkn:((k:Int)==(S.cols.length:Int))=true:=by simp;omega
        have hE':Hid (kD p n g R w wr S.cols S.piv (kz (jC p) S.cols.length j P Q2 (k+1)) odd cv pv):=Lib.hid (by rw[hkt,Yo];have:=hE.out;rw[hkt] at this;exact this);clear hE hkt hrk hrk';obtain⟨kb,kc,kl⟩:=rk;unfold qy at hck;dsimp only at hck
        go_wp2
        go_roundg gh2
        case rel=>exact⟨k+1,by go_num,by have:=Hkk.out;omega,hE'⟩
        case measure=>omega
       ·have hkn:((k:Int)==(S.cols.length:Int))=false:=by simp;omega
        obtain⟨hko,hkl2,hkc1,hkc2⟩:=hE.out.mx.row _ (List.mem_of_getElem? hrk');have htop:=(Yq (F:=jC p) (R:=Q2) (top:=S.cols.length) (o:=j) (P:=P) k).trans Hrow2.out;have hct:=hE.out.mx.cellRow htop;obtain⟨hto,htl2,htc1,htc2⟩:=hE.out.mx.row _ (List.mem_of_getElem? htop);have hbb:ib≠rk.1:=Ze hE.out.mx.apart htop hrk' (fun e=>hkt e.symm);have hkin:=hE.out.inp _ (List.mem_of_getElem? hrk');have Hsu:=Lib.hid (Yp (F:=jC p) (top:=S.cols.length) (o:=j) (P:=P) hkt hrk);obtain⟨kb,kc,kl⟩:=rk;unfold qy at hck hct;dsimp only at hck hct hko hkl2 hkc1 hkc2 hto htl2 htc1 htc2 hbb hkin;have CL:=Lib.hid (UD p wr.drew kb j (n-j) (kc-j) ib j (ic-j) kl P hko hto hbb (by omega) (by omega) (by omega) (by omega) (by omega) (by omega) (by omega) HP.out hkin HinL.out);have hkbl:=hko.lt;have hibl:=hto.lt;have Hlen:=Lib.hid hkl2;have Hrk:=Lib.hid hrk';have Hkt:=Lib.hid hkt;have Hkin:=Lib.hid hkin;clear hko hto hbb hrk hrk' htop hkin hkl2 htl2 hkt
        go_wp2_with fail
        have hjn:j≤n:=by omega
        have hic:¬ic=j:=by omega
        have hkc:¬kc=j:=by omega
        refine wp_region_still_tail 10 (by kernel_rfl) (by kernel_rfl) ?_;simp only[List.take_succ_cons,List.take_zero,List.drop_succ_cons,List.drop_zero];change wpStill _ _ wr.drew (fun a'=>wpList _ _ _ _ a' wr.drew) _ _
        repeat still_step
        refine wpStill_nil ?_
        go_wp2_with fail
        refine CL.out.mono ?_;rintro e w5 ⟨rfl,hO5,hB5⟩;rw[UE p j (n-j) kl P (by have:=Hlen.out;omega)] at hO5
        have hE':Hid (kD p n g R w w5 S.cols S.piv (kz (jC p) S.cols.length j P Q2 (k+1)) odd cv pv):=Lib.hid (by
         rw[←Hsu.out]
         exact hE.out.setRow Hrk.out hO5 (by rw[Yn];exact Hlen.out) (UF (by have:=HP.out.1;omega) j Hkin.out) (jh.dr' hB5))
        clear hO5 hB5 CL hck hct hE
        go_wp2
        go_roundg gh2
        case rel=>exact⟨k+1,by go_num,by have:=Hkk.out;omega,hE'⟩
        case measure=>omega
    ·have hne:((i:Int)==(S.cols.length:Int))=false:=by simp;omega
     have HQ:Hid (qp i S=qu S.rows i S.cols.length):=Lib.hid (by unfold qp;rw[if_neg hit]);have HO:Hid ((if i=S.cols.length then S.odd else !S.odd) = !S.odd):=Lib.hid (if_neg hit);have hci:=HE.out.mx.cellRow hri;have hct:=HE.out.mx.cellRow hrt;have hfi:=HE.out.mx.own.free i;have hft:=HE.out.mx.own.free S.cols.length;have hgl:=HE.out.mx.own.lt;have HE2:=Lib.hid (HE.out.swap hri hrt);have Hrow:=Lib.hid (GO hri hrt);rw[←HQ.out] at Hrow HE2;clear HR HQ hri hrt HE hi2 hil;obtain⟨ib,ic,il⟩:=ri;obtain⟨tb,tc,tl⟩:=rt;unfold qy at hci hct HE2;dsimp only at hci hct HE2;generalize hQe:qp i S=Q at *;have HQe:=Lib.hid hQe;clear hQe
     go_upto_region 9 with fail
     go_region
     obtain⟨w2,hw2⟩:∃w2,w2=((w1.setCell ⟨g,i,none⟩ (.slice (some ⟨tb,0,none⟩) n tc)).setCell ⟨g,S.cols.length,none⟩ (.slice (some ⟨ib,0,none⟩) n ic)).drew:=⟨_,rfl⟩
     rw[←hw2] at HE2;rw[←hw2];clear hw2 hci hct hfi hft hgl hit;obtain⟨x0,x1,x2,x3,y0,y1,y2,y3⟩:=HE2.out.res.four;have HE3:=Lib.hid (HE2.out.setOdd (!S.odd));rw[←HO.out] at HE3;have hln:=HE2.out.res.lt;clear HE2
     go_upto_region 11 with fail
     obtain⟨w3,hw3⟩:∃w3,w3=w2.setCell ⟨w.heap.size+1,3,none⟩ (.bool (!S.odd)):=⟨_,rfl⟩
     rw[HO.out,←hw3,←HO.out] at HE3;rw[←hw3];clear hw3 x0 x1 x2 x3 y0 y1 y2 y3 hln w2 HO;generalize hOe:(if i=S.cols.length then S.odd else !S.odd)=odd at *;have HOe:=Lib.hid hOe;clear hOe;have HE:=HE3;clear HE3;have hcr:=HE.out.mx.cellRow Hrow.out;have hcx:=HE.out.mx.cellNum Hrow.out hj2;obtain⟨hro,hrl,hrc1,hrc2⟩:=HE.out.mx.row _ (List.mem_of_getElem? Hrow.out);have hin':=HE.out.inp _ (List.mem_of_getElem? Hrow.out);unfold qy at hcr;dsimp only at hcr hcx hro hrl hrc1 hrc2 hin';have hx:=hin' (il[j]?.getD 0) (by rw[List.getElem?_eq_getElem (by omega)];exact List.getElem_mem (by omega))
     have hx0:0<il[j]?.getD 0:=by have:=Hnz.out;omega
     have DV:=Lib.hid (U0 p (il[j]?.getD 0) w3 ib j (n-j) (ic-j) il hro (by omega) (by omega) (by omega) HP.out hin' ⟨hx0,hx.2⟩);have hbl:=hro.lt;have hgl:=HE.out.mx.own.lt;have Hil:=Lib.hid hrl;clear hro hin' Hnz hx hx0 hrl;generalize hxe:il[j]?.getD 0=x at *;have Hxe:=Lib.hid hxe;clear hxe
     go_wp2_with fail
     refine DV.out.mono ?_;clear DV;rintro e w4 ⟨rfl,hO4,hB4⟩;rw[UY p x j (n-j) il (by have:=Hil.out;omega)] at hO4;have HE4:=Lib.hid (HE.out.setRow Hrow.out hO4 (by rw[J6];exact Hil.out) (QX (by have:=HP.out.1;omega) x j (HE.out.inp _ (List.mem_of_getElem? Hrow.out))) hB4);clear hO4 hB4 hcr hcx hbl hgl hrc1 hrc2
     go_wp2_with fail
     have Hrow2:=Lib.hid (xt Hrow.out (kR (jC p) x j il));have HL2:Hid ((kR (jC p) x j il).length=n):=Lib.hid (by rw[J6];exact Hil.out);have HSt:=Lib.hid (YI (F:=jC p) HQe.out Hrow.out Hxe.out HOe.out HE.out.len);have HinL:=Lib.hid (QX (by have:=HP.out.1;omega) x j (HE.out.inp _ (List.mem_of_getElem? Hrow.out)));clear HE Hrow Hxe HQe HOe Hil;generalize kR (jC p) x j il=P at *;generalize setRow Q S.cols.length P=Q2 at *
     go_loopg [70] R.length (fun gh2 i wx=>∃k:Nat,i = .int .i64 k∧k+gh2=R.length∧Hid (kD p n g R w wx S.cols S.piv (kz (jC p) S.cols.length j P Q2 k) odd cv pv))
     case atStart=>exact⟨0,rfl,by omega,Lib.hid (by rw[Yr];exact HE4.out)⟩
     case round=>
      have HQl:Hid (Q2.length=R.length):=Lib.hid HE4.out.len;clear HE4;obtain⟨k,rfl,hkk,hE⟩:=hrel
      cases gk with
      | zero=>
       have hkR:k=R.length:=by omega
       have hkn:¬((k:Int)<(R.length:Int)):=by omega
       have hE5:Hid (kD p n g R w wr S.cols S.piv (kz (jC p) S.cols.length j P Q2 R.length) odd cv pv):=Lib.hid (by rw[←hkR];exact hE.out);clear hE hkk hkR;have hsz:=hE5.out.res.lt
       have hl1:S.piv.length<1000000:=by have:=HS.out;omega
       obtain⟨x0,x1,x2,x3,y0,y1,y2,y3⟩:=hE5.out.res.four
       go_upto_region 20 with (at_builtin;(refine wpList_append_own _ rfl _ _ 50 rfl (w.heap.size+2) 3 i0 (.int .i64 0) 1 8 Tryz.underlying50 hi0 hz0 hz1 hz2 rfl (by decide) _ _ _ rfl (hE5.out.cown.alloc _) ⟨wr.heap.size,0,none⟩ 1 1 [.int .i64 j] rfl rfl (cell_one_new _ _ _) (fun x hx=>by simp at hx;subst hx;rfl) (by unfold maxLen;omega) (by omega) (by simp;omega) ?_;intro v5 w5 hown5 hgrow5 _;obtain⟨A5,c5,rfl,_,_⟩:=j8 hown5;have hA:=hE5.out.addCol hown5 hgrow5;have hXX:=hA.1.four;obtain⟨q0,q1,q2,q3,r0,r1,r2,r3⟩:=hXX;have HE6:=Lib.hid hA.2;clear hA hown5 hgrow5))
       obtain⟨w6,hw6⟩:∃w6,w6=w5.setCell ⟨w.heap.size+1,1,none⟩ (.slice A5 (S.cols.length+1) c5):=⟨_,rfl⟩
       rw[←hw6] at HE6;rw[←hw6];clear hw6 x0 x1 x2 x3 y0 y1 y2 y3 q0 q1 q2 q3 r0 r1 r2 r3 hE5 hsz;have hsz:=HE6.out.res.lt;obtain⟨x0,x1,x2,x3,y0,y1,y2,y3⟩:=HE6.out.res.four
       go_wp2_with (at_builtin;(refine wpList_append_own _ rfl _ _ 192 rfl (w.heap.size+2) 2 j0 (.int .i64 0) 1 8 Tryz.underlying192 hj0 hw0 hw1 hw2 rfl (by decide) _ _ _ rfl (HE6.out.pown.alloc _) ⟨w6.heap.size,0,none⟩ 1 1 [.int .i64 x] rfl rfl (cell_one_new _ _ _) (fun x hx=>by simp at hx;subst hx;rfl) (by unfold maxLen;omega) (by omega) (by simp;omega) ?_;intro v7 w7 hown7 hgrow7 _;obtain⟨A7,c7,rfl,_,_⟩:=j8 hown7;have hA:=HE6.out.addPiv hown7 hgrow7;have hXX:=hA.1.four;obtain⟨q0,q1,q2,q3,r0,r1,r2,r3⟩:=hXX;have HE8:=Lib.hid hA.2;clear hA hown7 hgrow7))
       go_roundg gh
       case rel=>
        have hcl:(kW (jC p) i j S).cols=S.cols++[j]:=by rw[HSt.out]
        exact⟨kW (jC p) i j S,j+1,_,_,by go_num,by rw[hcl,List.length_append];go_num,by rw[hcl,List.length_append];have:=Hk.out;simp;omega,Lib.hid (HE8.out.inv HSt.out HS.out hj2 hlt Hsome.out Hgo.out)⟩
       case measure=>omega
      | succ gh2=>
       have hkl:k<R.length:=by omega
       have hkl':((k:Int)<(R.length:Int)):=by omega
       obtain⟨rk,hrk⟩:∃r,Q2[k]? =some r:=⟨Q2[k]'(by rw[HQl.out];exact hkl),List.getElem?_eq_getElem _⟩
       have hrk':=(QR (F:=jC p) (R:=Q2) (top:=S.cols.length) (o:=j) (P:=P) k).trans hrk;have hck:=hE.out.mx.cellRow hrk';have hgl:=hE.out.mx.own.lt;have Hkk:=Lib.hid hkk;clear hkk;by_cases hkt:k=S.cols.length
       ·have hkn:((k:Int)==(S.cols.length:Int))=true:=by simp;omega
        have hE':Hid (kD p n g R w wr S.cols S.piv (kz (jC p) S.cols.length j P Q2 (k+1)) odd cv pv):=Lib.hid (by rw[hkt,Yo];have:=hE.out;rw[hkt] at this;exact this);clear hE hkt hrk hrk';obtain⟨kb,kc,kl⟩:=rk;unfold qy at hck;dsimp only at hck
        go_wp2
        go_roundg gh2
        case rel=>exact⟨k+1,by go_num,by have:=Hkk.out;omega,hE'⟩
        case measure=>omega
       ·have hkn:((k:Int)==(S.cols.length:Int))=false:=by simp;omega
        obtain⟨hko,hkl2,hkc1,hkc2⟩:=hE.out.mx.row _ (List.mem_of_getElem? hrk');have htop:=(Yq (F:=jC p) (R:=Q2) (top:=S.cols.length) (o:=j) (P:=P) k).trans Hrow2.out;have hct:=hE.out.mx.cellRow htop;obtain⟨hto,htl2,htc1,htc2⟩:=hE.out.mx.row _ (List.mem_of_getElem? htop);have hbb:ib≠rk.1:=Ze hE.out.mx.apart htop hrk' (fun e=>hkt e.symm);have hkin:=hE.out.inp _ (List.mem_of_getElem? hrk');have Hsu:=Lib.hid (Yp (F:=jC p) (top:=S.cols.length) (o:=j) (P:=P) hkt hrk);obtain⟨kb,kc,kl⟩:=rk;unfold qy at hck hct;dsimp only at hck hct hko hkl2 hkc1 hkc2 hto htl2 htc1 htc2 hbb hkin;have CL:=Lib.hid (UD p wr.drew kb j (n-j) (kc-j) ib j (ic-j) kl P hko hto hbb (by omega) (by omega) (by omega) (by omega) (by omega) (by omega) (by omega) HP.out hkin HinL.out);have hkbl:=hko.lt;have hibl:=hto.lt;have Hlen:=Lib.hid hkl2;have Hrk:=Lib.hid hrk';have Hkt:=Lib.hid hkt;have Hkin:=Lib.hid hkin;clear hko hto hbb hrk hrk' htop hkin hkl2 htl2 hkt
        go_wp2_with fail
        have hjn:j≤n:=by omega
        have hic:¬ic=j:=by omega
        have hkc:¬kc=j:=by omega
        refine wp_region_still_tail 10 (by kernel_rfl) (by kernel_rfl) ?_;simp only[List.take_succ_cons,List.take_zero,List.drop_succ_cons,List.drop_zero];change wpStill _ _ wr.drew (fun a'=>wpList _ _ _ _ a' wr.drew) _ _
        repeat still_step
        refine wpStill_nil ?_
        go_wp2_with fail
        refine CL.out.mono ?_;rintro e w5 ⟨rfl,hO5,hB5⟩;rw[UE p j (n-j) kl P (by have:=Hlen.out;omega)] at hO5
        have hE':Hid (kD p n g R w w5 S.cols S.piv (kz (jC p) S.cols.length j P Q2 (k+1)) odd cv pv):=Lib.hid (by
         rw[←Hsu.out]
         exact hE.out.setRow Hrk.out hO5 (by rw[Yn];exact Hlen.out) (UF (by have:=HP.out.1;omega) j Hkin.out) (jh.dr' hB5))
        clear hO5 hB5 CL hck hct hE
        go_wp2
        go_roundg gh2
        case rel=>exact⟨k+1,by go_num,by have:=Hkk.out;omega,hE'⟩
        case measure=>omega
   ·have hgo:Hid (S=j3 (jC p) n R.length 0 ⟨R,[],[],false⟩):=Lib.hid (by
     rw[←hE.out.go]
     exact(Va (by omega) (Wp _ _ (fun c h1 h2 t h3 h4=>by rw[Xy,hcl c h1 (by have:=hE.out.hfr;omega) t h3 h4];rfl))).symm)
    clear hE hB1 hcl;have hE:=hE1;clear hE1;obtain⟨A1,k1,hcv,_,_⟩:=j8 hE.out.cown;obtain⟨A2,k2,hpv,hk2,_⟩:=j8 hE.out.pown
    have hpl:S.piv.length≤c:=by rw[hE.out.same];omega
    obtain⟨x0,x1,x2,x3,y0,y1,y2,y3⟩:=hE.out.res.four;obtain⟨z0,z1,z2,z3,v0,v1,v2,v3⟩:=hE.out.out.four;have hF:=Lib.hid (fun (wf:World) e h1 h2 h3=>U8 (c:=c) (wf:=wf) (e:=e) HM.out hE.out (by omega) hgo.out h1 h2 h3);subst hcv hpv;clear hE hgo
    go_wp2
    exact bodyPost_ret (v:= .agg #[.slice (some ⟨g,0,none⟩) S.piv.length c,.slice A1 S.cols.length k1,.slice A2 S.piv.length k2,.bool S.odd]) (by simp[results,Tryz.results163,go_sem,z0,z1,z2,z3]) rfl (hF.out _ _ (by
      exact((((((Below.refl w.heap.size w1).setCell (by simp) _).setCell (by simp) _).setCell (by simp) _).setCell (by simp) _).setCell (by simp) _))
     (fun k hk=>by simp only[World.setCell,Array.getElem?_modify];rw[if_neg (by omega),if_neg (by omega),if_neg (by omega),if_neg (by omega),if_neg (by omega)]) rfl)
end Go.Proofs.YtneafcdfnhnpnaaGreatDoor
namespace Go.Proofs.YtneafcdfnhnpnaaGreatDoor
open Go.RowKit Go.Lib
abbrev B9:Nat:=1000000000
def jb:List Nat→Nat
 | []=>0
 | x::r=>x+B9*jb r
def jG (ws:List Nat):Prop:=∀x∈ws,x<B9
theorem J1:jG []:=fun x hx=>by simp at hx
theorem J0 {a b:List Nat} :jG (a++b)↔jG a∧jG b:=by
 unfold jG;simp only[List.mem_append];exact⟨fun h=>⟨fun x hx=>h x (.inl hx),fun x hx=>h x (.inr hx)⟩,fun h x hx=>hx.elim (h.1 x) (h.2 x)⟩
theorem Jp {x:Nat} :jG [x]↔x<B9:=by unfold jG;simp
theorem zU {ws:List Nat} (h:jG ws) (k:Nat):jG (ws.take k):=fun x hx=>h x (List.mem_of_mem_take hx)
theorem kI {ws:List Nat} (h:jG ws) (k:Nat):ws[k]?.getD 0<B9:=by
 rcases Nat.lt_or_ge k ws.length with hk | hk
 ·rw[List.getElem?_eq_getElem hk];exact h _ (List.getElem_mem hk)
 ·rw[List.getElem?_eq_none hk];decide
theorem J2 (a b:List Nat):jb (a++b)=jb a+B9^a.length*jb b:=by
 induction a with
 | nil=>simp[jb]
 | cons x r ih=>
  simp only[List.cons_append,jb,ih,List.length_cons,Nat.pow_succ];rw[Nat.mul_add,←Nat.mul_assoc,Nat.mul_comm B9 (_^_),Nat.add_assoc]
theorem zV (l:List Nat) (x:Nat):jb (l++[x])=jb l+B9^l.length*x:=by rw[J2];simp[jb]
theorem Yj (ws:List Nat):jb (jF ws)=jb ws:=by
 refine JH (P:=fun ws=>jb (jF ws)=jb ws) rfl (fun l x ih=> ?_) ws;by_cases h:x=0
 ·subst h;rw[zL,ih,J2];simp[jb]
 ·rw[zK l x h]
theorem Uz {ws:List Nat} (h:jG ws):jG (jF ws):=by
 intro x hx;apply h;unfold jF at hx;rw[List.mem_reverse] at hx;exact List.mem_reverse.1 ((List.dropWhile_sublist _).mem hx)
theorem qz {ws:List Nat} (h:jG ws):jb ws<B9^ws.length:=by
 induction ws with
 | nil=>simp[jb]
 | cons x r ih=>
  have hx:=h x (by simp);have hr:=ih (fun y hy=>h y (by simp[hy]));simp only[jb,List.length_cons,Nat.pow_succ];have:B9*(jb r+1)≤B9*B9^r.length:=Nat.mul_le_mul_left _ hr;rw[Nat.mul_comm (_^_) B9];rw[Nat.mul_add,Nat.mul_one] at this;omega
theorem JZ {ws:List Nat} (h:ki ws) (hne:ws≠[]):B9^(ws.length-1)≤jb ws:=by
 revert h hne;refine JH (P:=fun ws=>ki ws→ws≠[]→B9^(ws.length-1)≤jb ws) (fun _ h=>absurd rfl h) (fun l x _ h _=> ?_) ws;by_cases hx:x=0
 ·subst hx
  unfold ki at h;rw[zL] at h;have:=JO l;rw[h] at this;simp at this;omega
 ·rw[zV]
  have:B9^l.length*1≤B9^l.length*x:=Nat.mul_le_mul_left _ (by omega)
  simp;omega
theorem Uw {ws:List Nat} (h:ki ws):jb ws=0↔ws=[]:=by
 constructor
 ·intro h0
  rcases List.eq_nil_or_concat ws with rfl | ⟨l,x,rfl⟩
  ·rfl
  ·have:=JZ h (by simp)
   have hp:0<B9^((l.concat x).length-1):=Nat.pow_pos (by decide);omega
 ·rintro rfl;rfl
theorem j9 (ws:List Nat):(jp ws).length=ws.length:=by simp[jp]
theorem qa (ws:List Nat) (k:Nat) (h:k<ws.length):(jp ws)[k]? =some (Value.int .i64 ((ws[k]?.getD 0:Nat):Int)):=by
 simp[jp,h]
theorem Za (ws:List Nat) (k:Nat):(jp ws).take k=jp (ws.take k):=by simp[jp]
theorem jE.take {w:World} {A:Option Addr} {n c k:Nat} {xs:List Value} (h:jE w (.slice A n c) xs) (hk:k≤xs.length):jE w (.slice A k c) (xs.take k):=by
 obtain⟨A',c',hv,h1,h2,h3⟩:=h
 obtain⟨rfl,rfl,rfl⟩:A=A'∧n=xs.length∧c=c':=by simpa using hv
 have hl:(xs.take k).length=k:=by rw[List.length_take];omega
 refine⟨A,c,by rw[hl],by omega,by omega,fun hn=> ?_⟩;obtain⟨b,off,hA,hb,hc⟩:=h3 (by omega);refine⟨b,off,hA,hb,fun j hj=> ?_⟩;rw[hc j (by omega),List.getElem?_take,if_pos (by omega)]
theorem XQ (A:Option Addr) (c:Nat) (ws:List Nat) (w:World) (hv:jE w (.slice A ws.length c) (jp ws)):
  Calls Tryz.prog 226 #[.slice A ws.length c] w fun e w'=>e = .returned (.slice A (jF ws).length c)∧jE w (.slice A (jF ws).length c) (jp (jF ws))∧w=w':=by
 have hc:=hv.form;obtain⟨A0,c0,hv0,hc1,hc2⟩:=hc;rw[j9] at hc1 hc2 hv0
 obtain⟨rfl,rfl⟩:A=A0∧c=c0:=by simpa using hv0
 clear hv0;go_enter Tryz.func226,Tryz.ntmps226
 go_wp2
 go_loopg [0] ws.length (fun g u wr=>∃k:Nat,u = .slice A k c∧k≤ws.length∧g=k∧Hid (jF (ws.take k)=jF ws)∧wr=w)
 case atStart=>exact⟨ws.length,rfl,by omega,rfl,hid (by simp),rfl⟩
 case round=>
  obtain⟨k,rfl,hk,rfl,hf,rfl⟩:=hrel;by_cases h0:0<gk
  ·obtain⟨j,rfl⟩:∃j,gk=j+1:=⟨gk-1,by omega⟩
   obtain⟨b,off,rfl,hb,hcell⟩:=hv.at_ (k:=j) (by rw[j9];omega);have hck:=hcell j (by rw[j9];omega);rw[qa ws j (by omega)] at hck;have Ht:=hid (yO ws j (by omega));generalize hx:ws[j]?.getD 0=x at hck Ht;clear hx hcell;by_cases hz:x=0
   ·subst hz
    have HS:Hid (jF (ws.take j)=jF ws):=hid (by rw[←hf.out,Ht.out,zL]);clear hf Ht
    go_wp2
    go_roundg j
    case rel=>exact⟨j,rfl,by omega,rfl,HS,rfl⟩
    case measure=>omega
   ·have hz':(((x:Nat):Int)==0)=false:=by simpa using hz
    have hlen:jF ws=ws.take (j+1):=by rw[←hf.out,Ht.out,zK _ _ hz]
    have hsl:=hv.take (k:=j+1) (by rw[j9];omega);rw[Za,←hlen] at hsl
    have hn:(jF ws).length=j+1:=by rw[hlen];simp;omega
    have Hn:=hid hn;clear hn;have HSL:=hid hsl;clear hlen hsl hf Ht hz
    go_wp2
    go_ret;refine⟨by rw[Hn.out];rfl,by rw[Hn.out];exact HSL.out,rfl⟩
  ·have:gk=0:=by omega
   subst this
   have hn:jF ws=[]:=by rw[←hf.out];rfl
   have Hn:=hid hn;clear hn;have HSL:=hid (hv.take (k:=0) (by omega));clear hf
   go_wp2
   go_ret;refine⟨by rw[Hn.out];rfl,by rw[Hn.out];exact HSL.out,rfl⟩
def Ri (w:World) (v:Value) (x:Int):Prop:=∃dv ws,v = .agg #[.bool (decide (x<0)),dv]∧jb ws=x.natAbs∧jG ws∧ki ws∧jE w dv (jp ws)
theorem Ri.below {w w':World} {v:Value} {x:Int} (h:Ri w v x) (hb:Below w.heap.size w w'):Ri w' v x:=by
 obtain⟨dv,ws,h1,h2,h3,h4,h5⟩:=h;exact⟨dv,ws,h1,h2,h3,h4,h5.below hb⟩
theorem Kq (neg:Bool) (n:Nat):(sg neg n).natAbs=n:=by unfold sg;split <;> simp
theorem Gu (neg:Bool) (n:Nat):decide (sg neg n<0)=(neg&&decide (0<n)):=by
 unfold sg;cases neg
 ·simp
 ·simp
theorem FQ (ws:List Nat):jF ws=ws.take (jF ws).length:=by
 refine JH (P:=fun ws=>jF ws=ws.take (jF ws).length) rfl (fun l x ih=> ?_) ws;by_cases h:x=0
 ·subst h
  rw[zL,List.take_append_of_le_length (JO l)];exact ih
 ·rw[zK l x h,List.take_of_length_le (Nat.le_refl _)]
theorem V7 (w:World) (t:TypeId) (a b:Value):(w.alloc (.cells #[a,b] t)).cell? ⟨w.heap.size,0,none⟩=some a∧(w.alloc (.cells #[a,b] t)).cell? ⟨w.heap.size,1,none⟩=some b:=by
 constructor <;> rw[World.cell?_alloc_at _ _ _ _ rfl] <;> rfl
def kN (x:Int) (w:World) (e:Ending) (w':World):Prop:=∃v,e = .returned v∧Ri w' v x∧Below w.heap.size w w'
theorem xj (neg:Bool) (dv:Value) (ws:List Nat) (w:World) (hok:jG ws) (hv:jE w dv (jp ws)):
  Calls Tryz.prog 183 #[.bool neg,dv] w (kN (sg neg (jb ws)) w):=by
 obtain⟨A,c,rfl,hc1,hc2⟩:=hv.form;rw[j9] at *;have HV:=hid hv;clear hv;have HOK:=hid hok;clear hok
 have HS:Hid (jE w (.slice A (jF ws).length c) (jp (jF ws))):=hid (by
  have h:=HV.out.take (k:=(jF ws).length) (by rw[j9];exact JO ws)
  rw[Za,←FQ] at h;exact h)
 have HP:Hid (decide (0<jb ws)=decide (0<(jF ws).length)):=hid (by
  rw[←Yj];have:=Uw (X0 ws)
  cases h:jF ws with
  | nil=>rfl
  | cons a r=>
   have h1:jb (a::r)≠0:=fun e=>by rw[←h] at e;have:=this.1 e;rw[h] at this;cases this
   simp;omega)
 have HF:Hid (∀b:Bool,b=(neg&&decide (0<(jF ws).length))→kN (sg neg (jb ws)) w (.returned (.agg #[.bool b,.slice A (jF ws).length c])) (w.alloc (.cells #[.bool b,.slice A (jF ws).length c] 127))):=hid (fun b hb=>by
  have hB:Below w.heap.size w (w.alloc (.cells #[.bool b,.slice A (jF ws).length c] 127)):=(Below.refl _ _).alloc (Nat.le_refl _) _
  exact⟨_,rfl,⟨_,jF ws,by rw[Gu,HP.out,hb],by rw[Kq,Yj],Uz HOK.out,X0 ws,HS.out.below hB⟩,hB⟩)
 have HL:=hid (JO ws);go_enter Tryz.func183,Tryz.ntmps183
 go_wp2_with fail
 refine(XQ A c ws _ (HV.out.below ((Below.refl _ _).alloc (Nat.le_refl _) _))).mono ?_;rintro e w1 ⟨rfl,hs,rfl⟩;clear hs
 cases neg with
 | true=>
  go_wp2
  obtain⟨z0,z1⟩:=V7 w 127 (.bool (decide (0<(jF ws).length))) (.slice A (jF ws).length c);exact bodyPost_ret (v:= .agg #[.bool (decide (0<(jF ws).length)),.slice A (jF ws).length c]) (by simp[results,Tryz.results183,go_sem,z0,z1]) rfl (HF.out _ (by simp))
 | false=>
  go_wp2
  obtain⟨z0,z1⟩:=V7 w 127 (.bool false) (.slice A (jF ws).length c);exact bodyPost_ret (v:= .agg #[.bool false,.slice A (jF ws).length c]) (by simp[results,Tryz.results183,go_sem,z0,z1]) rfl (HF.out _ (by simp))
end Go.Proofs.YtneafcdfnhnpnaaGreatDoor
namespace Go.Proofs.YtneafcdfnhnpnaaGreatDoor
open Go.RowKit
def J7 (k:Nat):List Int:=(List.range k).map fun (i:Nat)=>(i:Int)
theorem TV (k:Nat):jc (J7 (k+1))=jc (J7 k)++[.int .i64 k]:=by simp[J7,jc,List.range_succ]
theorem BO (n:Nat) (w:World) (hn:n≤1000):
  Calls Tryz.prog 94 #[.int .i64 n] w fun e w'=>∃v,e = .returned v∧w'.ownsRow w.heap.size 3 1 v n (jc (J7 n))∧Below w.heap.size w w':=by
 obtain⟨i0,hi,hz0,hz1,hz2⟩:=info_parts yc;go_enter Tryz.func94,Tryz.ntmps94
 go_wp2_with fail
 go_loopg [3,4] n (fun g v i wr=>∃(k:Nat),k+g=n∧i = .int .i64 k∧wr.ownsRow w.heap.size 3 1 v k (jc (J7 k))∧Below w.heap.size w wr)
 case atStart=>exact⟨0,by omega,rfl,by exact World.ownsRow_nil w w.heap.size 3 1,Below.refl _ _⟩
 case round=>
  obtain⟨k,hk,rfl,hO,hB⟩:=hrel
  cases gk with
  | zero=>
   have hkn:k=n:=by omega
   have hin:¬((k:Int)<(n:Int)):=by omega
   rw[hkn] at hO;have HO:=Lib.hid hO;clear hkn hO hk
   go_wp2
   go_ret;exact⟨_,rfl,HO.out,hB⟩
  | succ g=>
   have hin:((k:Int)<(n:Int)):=by omega
   have hs:=hB.size;have Hk:=Lib.hid hk
   have hkk:k<1000:=by omega
   have HO:=Lib.hid hO;clear hk hO
   go_wp2_with (at_builtin;(refine wpList_append_own _ rfl _ _ 50 rfl w.heap.size 3 i0 (.int .i64 0) 1 8 Tryz.underlying50 hi hz0 hz1 hz2 rfl (by decide) _ _ _ rfl (HO.out.alloc _) ⟨wr.heap.size,0,none⟩ 1 1 [.int .i64 k] rfl rfl (cell_one_new _ _ _) (fun x hx=>by simp at hx;subst hx;rfl) (by unfold maxLen;omega) (by omega) (by simp;omega) ?_;intro v' w1 hown' hgrow _))
   have hB':=Below.grown (hB.alloc hB.size (.cells #[.int .i64 k] 3)) hgrow (by simp;omega) (fun j hj=>by have:=(HO.out.lt _ hj).1;omega);rw[←TV] at hown';have HO':=Lib.hid hown';clear hown' hgrow hB
   go_wp2
   go_roundg g
   case rel=>exact⟨k+1,by have:=Hk.out;omega,by go_num,HO'.out,hB'⟩
   case measure=>omega
def qJ {α:Type} (L:List α) (k:Nat):List α:=L.mapIdx fun j x=>if j<k∨L.length≤j+k then L[L.length-1-j]?.getD x else x
theorem JG {α:Type} (L:List α) (k:Nat):(qJ L k).length=L.length:=by simp[qJ]
theorem Gh {α:Type} (L:List α):qJ L 0=L:=by
 apply List.ext_getElem?;intro j;simp only[qJ,List.getElem?_mapIdx];rcases Nat.lt_or_ge j L.length with h | h
 ·rw[List.getElem?_eq_getElem h];simp only[Option.map_some];rw[if_neg (by omega)]
 ·rw[List.getElem?_eq_none h];rfl
theorem Gf {α:Type} (L:List α) (k:Nat) (h:L.length≤2*k+1):qJ L k=L.reverse:=by
 apply List.ext_getElem?;intro j;simp only[qJ,List.getElem?_mapIdx];rcases Nat.lt_or_ge j L.length with hj | hj
 ·rw[List.getElem?_eq_getElem hj,List.getElem?_reverse hj]
  simp only[Option.map_some];rw[List.getElem?_eq_getElem (by omega:L.length-1-j<L.length)];by_cases hc:j<k∨L.length≤j+k
  ·rw[if_pos hc];rfl
  ·rw[if_neg hc]
   have:L.length-1-j=j:=by omega
   simp only[this]
 ·rw[List.getElem?_eq_none hj,List.getElem?_eq_none (l:=L.reverse) (by rw[List.length_reverse];exact hj)];rfl
theorem XC {α:Type} (L:List α) (k j:Nat) (h1:k≤j) (h2:j+k<L.length):(qJ L k)[j]? =L[j]? :=by
 simp only[qJ,List.getElem?_mapIdx];rw[List.getElem?_eq_getElem (by omega:j<L.length)];simp only[Option.map_some];rw[if_neg (by omega)]
theorem Gg {α:Type} (L:List α) (k:Nat) (a b:α) (h:2*k+1<L.length) (ha:L[k]? =some a) (hb:L[L.length-1-k]? =some b):((qJ L k).set k b).set (L.length-1-k) a=qJ L (k+1):=by
 apply List.ext_getElem?;intro j;rw[List.getElem?_set,List.getElem?_set,List.length_set,JG];simp only[qJ,List.getElem?_mapIdx];by_cases h1:L.length-1-k=j
 ·subst h1
  rw[if_pos rfl,if_pos (by omega),List.getElem?_eq_getElem (by omega:L.length-1-k<L.length)];simp only[Option.map_some];rw[if_pos (by omega),show L.length-1-(L.length-1-k)=k by omega,ha];rfl
 ·rw[if_neg h1]
  by_cases h2:k=j
  ·subst h2
   rw[if_pos rfl,if_pos (by omega),List.getElem?_eq_getElem (by omega:k<L.length)];simp only[Option.map_some];rw[if_pos (by omega),hb];rfl
  ·rw[if_neg h2]
   rcases Nat.lt_or_ge j L.length with hj | hj
   ·rw[List.getElem?_eq_getElem hj]
    simp only[Option.map_some,Option.some.injEq];by_cases hc:j<k∨L.length≤j+k
    ·rw[if_pos hc,if_pos (by omega)]
    ·rw[if_neg hc,if_neg (by omega)]
   ·rw[List.getElem?_eq_none hj];rfl
theorem Gi (w:World) (b n c:Nat) (L:List Int) (hO:ja w b 2 (jc L)) (hn:n=L.length) (hc1:n≤c) (hc2:c≤1000000):
  Calls Tryz.prog 214 #[.slice (some ⟨b,0,none⟩) n c] w fun e w'=>e = .returned (.tuple #[])∧ja w' b 2 (jc L.reverse)∧jh b w w':=by
 have hb:b<w.heap.size:=hO.lt
 have hst:ja w b 2 (jc (qJ L 0)):=by rw[Gh];exact hO
 have HN:=Lib.hid hn;clear hO hn;go_enter Tryz.func214,Tryz.ntmps214
 go_wp2_with fail
 go_loopg [2,3] n (fun gh i j wr=>∃k:Nat,i = .int .i64 k∧j = .int .i64 ((n:Int)-1-k)∧k+gh=n∧2*k≤n+1∧Hid (ja wr b 2 (jc (qJ L k)))∧jh b w wr)
 case atStart=>exact⟨0,rfl,by go_num,by omega,by omega,Lib.hid hst,jh.refl _ _⟩
 case round=>
  clear hst;obtain⟨k,rfl,rfl,hk,hk2,hO,hB⟩:=hrel;by_cases hlt:2*k+1<n
  ·have hti:(k:Int)<(n:Int)-1-k:=by omega
   have hjj:(n:Int)-1-k=((n-1-k:Nat):Int):=by omega
   have hl:=HN.out;have e1:=XC L k k (Nat.le_refl _) (by omega);have e2:=XC L k (n-1-k) (by omega) (by omega);have c1:=(hO.out.cell k).trans (kh (qJ L k) k (by rw[JG];omega));have c2:=(hO.out.cell (n-1-k)).trans (kh (qJ L k) (n-1-k) (by rw[JG];omega));have f1:=hO.out.free k;have f2:=hO.out.free (n-1-k)
   have hne:¬k=n-1-k:=by omega
   have hln:=hO.out.lt;have Hs:=Lib.hid (Gg L k (L[k]?.getD 0) (L[n-1-k]?.getD 0) (by omega) (by rw[List.getElem?_eq_getElem (by omega)];rfl) (by rw[←hl,List.getElem?_eq_getElem (by omega)];rfl));rw[e1] at c1;rw[e2] at c2;rw[←hl] at Hs;clear e1 e2 hl;rw[hjj] at hti ⊢;generalize L[k]?.getD 0=x at *;generalize L[n-1-k]?.getD 0=y at *
   have hjn:n-1-k<n:=by omega
   generalize hj:n-1-k=j at *;have Hj:=Lib.hid hj;have Hjj:=Lib.hid hjj;clear hj hjj
   go_wp2_with fail
   go_region
   have HO2:Hid (ja ((wr.setCell ⟨b,k,none⟩ (.int .i64 y)).setCell ⟨b,j,none⟩ (.int .i64 x)).drew b 2 (jc (qJ L (k+1)))):=Lib.hid (by
    rw[←Hs.out,←xF,←xF]
    exact(hO.out.put k _).put j _)
   have hB2:=((hB.setCell ⟨b,k,none⟩ rfl (.int .i64 y)).setCell ⟨b,j,none⟩ rfl (.int .i64 x)).drew;clear hO hB Hs
   go_wp2
   go_roundg (gk-1)
   case rel=>exact⟨k+1,by go_num,by have:=Hj.out;go_num,by have:=Hj.out;omega,by omega,HO2,hB2⟩
   case measure=>omega
  ·have hti:¬((k:Int)<(n:Int)-1-k):=by omega
   have HO:=Lib.hid (show ja wr b 2 (jc L.reverse) by rw[←Gf L k (by have:=HN.out;omega)];exact hO.out);clear hO
   go_wp2
   go_end0
   exact⟨rfl,HO.out,hB⟩
