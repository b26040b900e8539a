/- Matrices over the residues: how they stand while elimination works on them. -/
import Derived.Test.YtneafcdfnhnpnaaGreatDoorZD18
import Derived.Test.YtneafcdfnhnpnaaGreatDoorZD14
set_option maxRecDepth 100000
set_option maxHeartbeats 4000000
namespace Go.Proofs.YtneafcdfnhnpnaaGreatDoor
open Go.RowKit
noncomputable def jC (p:Int):Fd Int:=⟨0,fun x=>x==0,fun a b=>(a-b)%p,fun a b=>a*b%p,K8 p⟩
theorem UW (p d:Int) (o n:Nat) (L:List Int) (h:o+n=L.length):kV (y5 p d) o n L=kf (jC p) d o L:=by
 unfold kV kf;apply List.ext_getElem?;intro j;simp only[List.getElem?_mapIdx];rcases Nat.lt_or_ge j L.length with hl | hl
 ·rw[List.getElem?_eq_getElem hl]
  simp only[Option.map_some,Option.some.injEq];by_cases h2:o≤j
  ·rw[if_pos ⟨h2,by omega⟩,if_pos h2];simp[y5,jC]
  ·rw[if_neg (by omega),if_neg h2]
 ·rw[List.getElem?_eq_none hl];rfl
theorem UE (p:Int) (o n:Nat) (L P:List Int) (h:o+n=L.length):J1 p o n L o P=kX (jC p) o L P:=by
 unfold J1 kX;have hz:(jC p).z=0:=rfl
 have hi:∀x,((jC p).isZ x=true)=(x=0):=fun x=>by simp[jC]
 rw[hz];simp only[hi];split
 ·rfl
 ·unfold xE
  apply List.ext_getElem?;intro j;simp only[List.getElem?_mapIdx];rcases Nat.lt_or_ge j L.length with hl | hl
  ·rw[List.getElem?_eq_getElem hl]
   simp only[Option.map_some,Option.some.injEq];by_cases h2:o≤j
   ·rw[if_pos ⟨h2,by omega⟩,if_pos h2,show o+(j-o)=j by omega];simp[zG,jC]
   ·rw[if_neg (by omega),if_neg h2]
  ·rw[List.getElem?_eq_none hl];rfl
structure jL (s:List Nat) (w w':World):Prop where
 os:w'.os=w.os
 tape:w'.tape=w.tape
 output:w'.output=w.output
 size:w.heap.size≤w'.heap.size
 block:∀k,k<w.heap.size→k ∉ s→w'.heap[k]? =w.heap[k]?
section
variable {s:List Nat} {a b c:World}
theorem jL.refl (s:List Nat) (w:World):jL s w w:=⟨rfl,rfl,rfl,Nat.le_refl _,fun _ _ _=>rfl⟩
theorem jL.trans (h:jL s a b) (k:jL s b c):jL s a c:=
 ⟨k.os.trans h.os,k.tape.trans h.tape,k.output.trans h.output,Nat.le_trans h.size k.size,fun i hi hg=>(k.block i (Nat.lt_of_lt_of_le hi h.size) hg).trans (h.block i hi hg)⟩
theorem jL.of_below (h:Below a.heap.size a b):jL s a b:=⟨h.os,h.tape,h.output,h.size,fun i hi _=>h.block i hi⟩
theorem jL.of_but {g:Nat} (h:jh g a b) (hg:g∈s):jL s a b:=⟨h.os,h.tape,h.output,h.size,fun i hi hn=>h.block i hi (fun e=>hn (e ▸ hg))⟩
theorem jL.below (h:jL s a b) (k:Below b.heap.size b c):jL s a c:=h.trans (jL.of_below k)
theorem jL.but {g:Nat} (h:jL s a b) (k:jh g b c) (hg:g∈s):jL s a c:=h.trans (jL.of_but k hg)
theorem jL.setCell (h:jL s a b) (p:Addr) (hp:p.block∈s) (u:Value):jL s a (b.setCell p u):=
 h.trans ⟨rfl,rfl,rfl,by simp[World.setCell],fun k _ hg=>Below.heap_setCell _ _ _ _ (fun e=>hg (e ▸ hp))⟩
theorem jL.setNew (h:jL s a b) (p:Addr) (hp:a.heap.size≤p.block) (u:Value):jL s a (b.setCell p u):=
 ⟨h.os,h.tape,h.output,Nat.le_trans h.size (by simp[World.setCell]),fun k hk hg=>(Below.heap_setCell _ _ _ _ (by omega)).trans (h.block k hk hg)⟩
theorem jL.drew (h:jL s a b):jL s a b.drew:=⟨h.os,h.tape,h.output,h.size,h.block⟩
theorem jL.grown (h:jL s a b) {row:Option Nat} (hg:b.grownBy c row) (hr:∀k,row=some k→a.heap.size≤k):jL s a c:=
 ⟨hg.os.trans h.os,hg.tape.trans h.tape,hg.output.trans h.output,Nat.le_trans h.size hg.size,
  fun i hi hs=>(hg.block i (Nat.lt_of_lt_of_le hi h.size) (fun e=>by have:=hr i e.symm;omega)).trans (h.block i hi hs)⟩
theorem ja.grown {g:Nat} {t:TypeId} {cs:List Value} {row:Option Nat} (o:ja a g t cs) (hg:a.grownBy b row) (hr:row≠some g):ja b g t cs:=
 (hg.block g o.lt (fun e=>hr e.symm)).trans o
theorem xa {base:Nat} {e:TypeId} {size:Nat} {v:Value} {n:Nat} {xs:List Value} (h:a.ownsRow base e size v n xs) (hk:∀k,k<a.heap.size→v.ownBlock=some k→b.heap[k]? =a.heap[k]?):b.ownsRow base e size v n xs:=by
 refine⟨h.1,?_⟩
 rcases h.2 with hn | ⟨g,cap,cur,rfl,hb,hgg,rest⟩
 ·exact .inl hn
 ·exact .inr ⟨g,cap,cur,rfl,hb,(hk g (Array.getElem?_eq_some_iff.1 hgg).1 rfl).trans hgg,rest⟩
theorem kB {base:Nat} {e:TypeId} {size:Nat} {v:Value} {n:Nat} {xs:List Value} (h:a.ownsRow base e size v n xs) (hb:Below a.heap.size a b):b.ownsRow base e size v n xs:=
 xa h fun k hk _=>hb.block k hk
theorem K5 {base:Nat} {e:TypeId} {size:Nat} {v:Value} {n:Nat} {xs:List Value} (h:a.ownsRow base e size v n xs) {g:Nat} (hb:jh g a b) (hg:g<base):b.ownsRow base e size v n xs:=
 xa h fun k hk hv=>hb.block k hk (by have:=(h.lt k hv).1;omega)
theorem xy {base:Nat} {e:TypeId} {size:Nat} {v:Value} {n:Nat} {xs:List Value} (h:a.ownsRow base e size v n xs) (p:Addr) (hp:p.block<base) (u:Value):(a.setCell p u).ownsRow base e size v n xs:=
 xa h fun k _ hv=>Below.heap_setCell _ _ _ _ (by have:=(h.lt k hv).1;omega)
end
theorem Y8 {R:List jR} (h:(R.map (·.1)).Nodup) {i j:Nat} {a b:jR} (hi:R[i]? =some a) (hj:R[j]? =some b) (hij:i≠j):a.1≠b.1:=by
 intro e
 have h1:(R.map (·.1))[i]? =some a.1:=by rw[List.getElem?_map,hi];rfl
 have h2:(R.map (·.1))[j]? =some a.1:=by rw[List.getElem?_map,hj,e];rfl
 exact hij ((List.getElem?_inj (List.getElem?_eq_some_iff.1 h1).1 h).1 (h1.trans h2.symm))
section
variable {w w':World} {g n:Nat} {R:List jR}
theorem ki.gne (h:ki w g R n) {r:jR} (hr:r∈R):g≠r.1:=h.own.apart (h.row r hr).1 (by decide)
theorem ki.setRow (h:ki w g R n) {i:Nat} {r:jR} (hr:R[i]? =some r) {L:List Int} (hO:ja w' r.1 2 (je L)) (hl:L.length=n) (hb:jh r.1 w w'):ki w' g (setRow R i L) n:=by
 refine⟨?_,?_,?_⟩
 ·have e:(Go.Proofs.YtneafcdfnhnpnaaGreatDoor.setRow R i L).map (qz n)=R.map (qz n):=Zz i L (fun b c=>Value.slice (some ⟨b,0,none⟩) n c)
  rw[e];exact h.own.but hb (h.gne (List.mem_of_getElem? hr))
 ·intro x hx
  obtain⟨k,hk⟩:=List.mem_iff_getElem?.1 hx;by_cases hik:i=k
  ·subst hik
   rw[qA hr] at hk;obtain rfl:=Option.some.inj hk;have:=h.row r (List.mem_of_getElem? hr);exact⟨hO,hl,this.2.2.1,this.2.2.2⟩
  ·rw[xA hik] at hk
   have:=h.row x (List.mem_of_getElem? hk);exact⟨this.1.but hb (Y8 h.apart hk hr (fun e=>hik e.symm)),this.2⟩
 ·rw[JD];exact h.apart
theorem ki.swap (h:ki w g R n) {i j:Nat} {a b:jR} (hi:R[i]? =some a) (hj:R[j]? =some b):ki ((w.setCell ⟨g,i,none⟩ (qz n b)).setCell ⟨g,j,none⟩ (qz n a)) g (j9 R i j) n:=by
 refine⟨?_,?_,?_⟩
 ·rw[Ko hi hj,List.map_set,List.map_set]
  exact(h.own.put _ _).put _ _
 ·intro x hx
  have hx:=Kl hx;have:=h.row x hx;exact⟨(this.1.other (p:=⟨g,i,none⟩) (fun e=>h.gne hx e.symm) _).other (p:=⟨g,j,none⟩) (fun e=>h.gne hx e.symm) _,this.2⟩
 ·exact((Km R i j).map _).nodup_iff.2 h.apart
theorem ki.keep (h:ki w g R n) (hk:∀k,k=g∨k∈R.map (·.1)→w'.heap[k]? =w.heap[k]?):ki w' g R n:=
 ⟨(hk g (.inl rfl)).trans h.own,fun r hr=>⟨(hk r.1 (.inr (List.mem_map_of_mem hr))).trans (h.row r hr).1,(h.row r hr).2⟩,h.apart⟩
theorem ki.lt (h:ki w g R n) {k:Nat} (hk:k=g∨k∈R.map (·.1)):k<w.heap.size:=by
 rcases hk with rfl | hk
 ·exact h.own.lt
 ·obtain⟨r,hr,rfl⟩:=List.mem_map.1 hk
  exact(h.row r hr).1.lt
end
def xP (p:Int) (R:List jR):Prop:=∀r∈R,∀x∈r.2.2,0≤x∧x<p
theorem xP.swap {p:Int} {R:List jR} (h:xP p R) (i j:Nat):xP p (j9 R i j):=fun r hr=>h r (Kl hr)
theorem xP.set {p:Int} {R:List jR} (h:xP p R) (i:Nat) {L:List Int} (hL:∀x∈L,0≤x∧x<p):xP p (setRow R i L):=by
 intro r hr
 rcases Fm hr with hr | ⟨q,_,_,rfl⟩
 ·exact h r hr
 ·exact hL
theorem VU {α:Type} {Q:α→Prop} {f:Nat→α→α} {L:List α} (h:∀j x,x∈L→Q (f j x)):∀x∈L.mapIdx f,Q x:=by
 intro x hx;obtain⟨k,hk⟩:=List.mem_iff_getElem?.1 hx;rw[List.getElem?_mapIdx] at hk
 cases hL:L[k]? with
 | none=>rw[hL] at hk;cases hk
 | some y=>rw[hL] at hk;obtain rfl:=Option.some.inj hk;exact h k y (List.mem_of_getElem? hL)
theorem QV {p:Int} (hp:0<p) (d:Int) (o:Nat) {L:List Int} (h:∀x∈L,0≤x∧x<p):∀x∈kf (jC p) d o L,0≤x∧x<p:=by
 refine VU fun j x hx=> ?_
 split
 ·split
  ·exact h x hx
  ·exact⟨Int.emod_nonneg _ (by omega),Int.emod_lt_of_pos _ hp⟩
 ·exact h x hx
theorem UF {p:Int} (hp:0<p) (o:Nat) {L P:List Int} (h:∀x∈L,0≤x∧x<p):∀x∈kX (jC p) o L P,0≤x∧x<p:=by
 unfold kX;split
 ·exact h
 ·refine VU fun j x hx=> ?_
  split
  ·split
   ·exact h x hx
   ·exact⟨Int.emod_nonneg _ (by omega),Int.emod_lt_of_pos _ hp⟩
  ·exact h x hx
theorem j7 {w:World} {base:Nat} {e:TypeId} {size:Nat} {v:Value} {n:Nat} {xs:List Value} (h:w.ownsRow base e size v n xs):∃A c,v = .slice A n c∧n≤c∧c≤maxLen:=by
 rcases h.2 with ⟨rfl,rfl⟩ | ⟨g,cap,cur,rfl,_,_,h1,h2,_⟩
 ·exact⟨none,0,rfl,Nat.le_refl _,by unfold maxLen;omega⟩
 ·exact⟨_,_,rfl,h1,h2⟩
theorem ja.four {w:World} {g:Nat} {t:TypeId} {a b c d:Value} (h:ja w g t [a,b,c,d]):
  w.cell? ⟨g,0,none⟩=some a∧w.cell? ⟨g,1,none⟩=some b∧w.cell? ⟨g,2,none⟩=some c∧w.cell? ⟨g,3,none⟩=some d∧w.frozen? ⟨g,0,none⟩=false∧w.frozen? ⟨g,1,none⟩=false∧w.frozen? ⟨g,2,none⟩=false∧w.frozen? ⟨g,3,none⟩=false:=
 ⟨h.cell 0,h.cell 1,h.cell 2,h.cell 3,h.free 0,h.free 1,h.free 2,h.free 3⟩
end Go.Proofs.YtneafcdfnhnpnaaGreatDoor
namespace Go.Proofs.YtneafcdfnhnpnaaGreatDoor
section
variable {f:Nat→Int→Int} {L:List Int} {k:Nat}
end
section
variable {T:Type} {F:Fd T} {n k c:Nat} {S:jz T}
theorem TY (h:∀t,S.cols.length≤t→t<S.rows.length→F.isZ (jI F S.rows t c)=true) (hc:c<n):jH F n k c S=jH F n k (c+1) S:=by
 cases k with
 | zero=>rfl
 | succ k=>
  have e:kP F S.rows S.cols.length (n-c) c=kP F S.rows S.cols.length (n-(c+1)) (c+1):=by
   rw[show n-c=(n-(c+1))+1 by omega]
   conv=>lhs;unfold kP
   rw[YJ _ _ (fun t a b=>h t a (by omega))]
  conv=>lhs;unfold jH
  conv=>rhs;unfold jH
  rw[e]
theorem G6 {α:Type} {R:List α} {i:Nat} (hi:i<R.length):j9 R i i=R:=by
 have h:=List.getElem?_eq_getElem hi;rw[Ko h h]
 simp
theorem YF {row:Nat} (hr:row<S.rows.length):jX row S=j9 S.rows row S.cols.length:=by
 unfold jX;split
 ·rename_i h;rw[←h,G6 hr]
 ·rfl
end
section
variable {K:Type} [Lean.Grind.Field K] {T:Type} {F:Fd T} {P:T→Prop} {φ:T→K}
theorem T6 (H:JO F P φ) {m n row col:Nat} {S:jz T} (hG:Qz P m n S.rows) (hq:S.cols.length<m) (hqr:S.cols.length≤row) (hr:row<m) (hd:F.isZ (jI F S.rows row col)=false)
  (h0:∀i,S.cols.length≤i→i<m → ∀k,k<col→F.isZ (jI F S.rows i k)=true):
  ∀i,S.cols.length+1≤i→i<m → ∀k,k<col+1→F.isZ (jI F (jU F row col S).rows i k)=true:=by
 have hP:∀i,i<m → ∀j,P (jI F S.rows i j):=fun i hi j=>KP H (hG.2 i hi).2 j
 have hz:∀i,S.cols.length≤i→i<m → ∀k,k<col→φ (jI F S.rows i k)=0:=fun i h1 h2 k hk=>(H.isZ _ (hP i h2 k)).1 (h0 i h1 h2 k hk)
 have hd0:φ (jI F S.rows row col)≠0:=fun e=>by
  have:=(H.isZ _ (hP row hr col)).2 e;rw[hd] at this;cases this
 obtain⟨G2,hs⟩:=Vf H hG hq hr hd0 (fun k hk=>hz row hqr hr k hk);have hdd:=Lean.Grind.Field.mul_inv_cancel hd0;intro i h1 h2 k hk
 have hsm:sw S.cols.length row i<m:=by unfold sw;split;exact hr;split <;> omega
 have hsq:S.cols.length≤sw S.cols.length row i:=by unfold sw;split;exact hqr;split <;> omega
 refine(H.isZ _ (KP H (G2.2 i h2).2 k)).2 ?_
 show φ (jI F (jU F row col S).rows i k)=0
 rw[hs i h2 k];unfold ZH;rw[if_neg (by omega)];dsimp only;rcases Nat.lt_or_ge k col with h3 | h3
 ·rw[hz _ hsq hsm k h3,hz row hqr hr k h3];grind
 ·have:k=col:=by omega
  subst this
  grind
end
end Go.Proofs.YtneafcdfnhnpnaaGreatDoor
namespace Go.Proofs.YtneafcdfnhnpnaaGreatDoor
open Go.RowKit Go.Lib
def kt (c:Value):Prop:=∀n,c ≠ .int .u64 n
theorem km.noU {c:Value} (h:km c):kt c:=fun n=>h _ n
def kr (w w':World):Prop:=w.heap.size≤w'.heap.size ∧ ∀b,b<w.heap.size→w'.heap[b]? =w.heap[b]? ∨ ∀cur e fr,w.heap[b]? =some (.cells cur e fr) → ∀c∈cur.toList,kt c
theorem Rz {w:World} {b o:Nat} {u:Value} (hu:w.cell? ⟨b,o,none⟩=some u):∃cur e fr,w.heap[b]? =some (.cells cur e fr)∧u∈cur.toList:=by
 unfold World.cell? at hu;dsimp only at hu;split at hu
 ·rename_i c e fr hc
  simp at hu;exact⟨c,e,fr,hc,Array.mem_toList_iff.2 (Array.mem_of_getElem? hu)⟩
 ·cases hu
theorem Nt.keeps {w w':World} {v:Value} {x:Nat} (h:Nt w v x) (hk:kr w w'):Nt w' v x:=by
 obtain⟨ws,h1,h2,h3,A,n,c,hv,h4,h5,h6,h7⟩:=h;refine⟨ws,h1,h2,h3,A,n,c,hv,h4,h5,h6,fun hn=> ?_⟩;obtain⟨b,off,hA,hlt,hcell⟩:=h7 hn;refine⟨b,off,hA,Nat.lt_of_lt_of_le hlt hk.1,fun j u hu=> ?_⟩;have hj:=hcell j u hu;rcases hk.2 b hlt with hs | hs
 ·exact(World.cell?_of_block (a:=⟨b,off+j,none⟩) hs).trans hj
 ·obtain⟨y,_,hy⟩:=List.mem_map.1 (List.mem_of_getElem? hu)
  obtain⟨cur,e,fr,h8,h9⟩:=Rz hj;exact absurd hy.symm (hs cur e fr h8 u h9 _)
theorem Rt.keeps {w w':World} {v:Value} {q:Rat} (h:Rt w v q) (hk:kr w w'):Rt w' v q:=by
 obtain⟨nv,dv,hv,h1,h2⟩:=h;exact⟨nv,dv,hv,h1.keeps hk,h2.keeps hk⟩
section
variable {w w':World}
theorem kr.below (h:Below w.heap.size w w'):kr w w':=⟨h.size,fun b hb=> .inl (h.block b hb)⟩
theorem kr.but {g:Nat} {t:TypeId} {cs:List Value} (h:jh g w w') (hO:ja w g t cs) (hc:∀c∈cs,km c):kr w w':=by
 refine⟨h.size,fun b hb=> ?_⟩;by_cases hg:b=g
 ·subst hg
  refine .inr fun cur e fr hh c hm=> ?_
  unfold ja at hO;rw[hO] at hh
  injection hh with hh
  injection hh with hh _ _
  subst hh;exact(hc c (by simpa using hm)).noU
 ·exact .inl (h.block b hb hg)
theorem kr.grown {base:Nat} {e:TypeId} {size n:Nat} {v:Value} {xs:List Value} (h:w.grownBy w' v.ownBlock) (ho:w.ownsRow base e size v n xs) (ha:ks w kt v):kr w w':=by
 refine⟨h.size,fun b hb=> ?_⟩;by_cases hg:some b=v.ownBlock
 ·refine .inr fun cur e' fr hh c hm=> ?_
  rcases ho.2 with ⟨rfl,_⟩ | ⟨g,cap,cur2,rfl,_,hg2,_⟩
  ·simp[Value.ownBlock] at hg
  ·simp[Value.ownBlock] at hg
   subst hg;rw[hg2] at hh
   injection hh with hh
   injection hh with h1 h2 h3
   subst h1 h2 h3;exact ha _ _ _ rfl hg2 c hm
 ·exact .inl (h.block b hb hg)
end
theorem Zw (n:Nat) (R:List jr):∀c∈R.map (jZ n),km c:=by
 intro c hc;obtain⟨r,_,rfl⟩:=List.mem_map.1 hc;exact jq _ _ _
section
variable {w w':World} {g n:Nat} {R:List jr}
theorem Y9 {R:List jr} (h:(R.map (·.1)).Nodup) {i j:Nat} {a b:jr} (hi:R[i]? =some a) (hj:R[j]? =some b) (hij:i≠j):a.1≠b.1:=by
 intro e
 have h1:(R.map (·.1))[i]? =some a.1:=by rw[List.getElem?_map,hi];rfl
 have h2:(R.map (·.1))[j]? =some a.1:=by rw[List.getElem?_map,hj,e];rfl
 exact hij ((List.getElem?_inj (List.getElem?_eq_some_iff.1 h1).1 h).1 (h1.trans h2.symm))
theorem j8.gne (h:j8 w g R n) {r:jr} (hr:r∈R):g≠r.1:=by
 obtain⟨es,he⟩:=(h.row r hr).1;exact h.own.apart he.own (by decide)
theorem jp.keeps {b:Nat} {es:List El} {qs:List Rat} (h:jp w b es qs) (hk:kr w w') (hb:w'.heap[b]? =w.heap[b]?):jp w' b es qs:=
 ⟨hb.trans h.own,h.len,h.noi,fun i e q he hq=>(h.num i e q he hq).keeps hk⟩
theorem j8.keep (h:j8 w g R n) (hK:kr w w') (hk:∀k,k=g∨k∈R.map (·.1)→w'.heap[k]? =w.heap[k]?):j8 w' g R n:=
 ⟨(hk g (.inl rfl)).trans h.own,fun r hr=>⟨by obtain⟨es,he⟩:=(h.row r hr).1;exact⟨es,he.keeps hK (hk r.1 (.inr (List.mem_map_of_mem hr)))⟩,(h.row r hr).2⟩,h.apart⟩
theorem j8.setRow (h:j8 w g R n) {i:Nat} {r:jr} (hr:R[i]? =some r) {L:List Rat} (hO:∃es,jp w' r.1 es L) (hl:L.length=n) (hb:jh r.1 w w'):j8 w' g (setRow R i L) n:=by
 obtain⟨es0,he0⟩:=(h.row r (List.mem_of_getElem? hr)).1;have hK:=kr.but hb he0.own he0.noInt;refine⟨?_,?_,?_⟩
 ·have e:(Go.Proofs.YtneafcdfnhnpnaaGreatDoor.setRow R i L).map (jZ n)=R.map (jZ n):=Zz i L (fun b c=>Value.slice (some ⟨b,0,none⟩) n c)
  rw[e];exact h.own.but hb (h.gne (List.mem_of_getElem? hr))
 ·intro x hx
  obtain⟨k,hk⟩:=List.mem_iff_getElem?.1 hx;by_cases hik:i=k
  ·subst hik
   rw[qA hr] at hk;obtain rfl:=Option.some.inj hk;have:=h.row r (List.mem_of_getElem? hr);exact⟨hO,hl,this.2.2.1,this.2.2.2⟩
  ·rw[xA hik] at hk
   have:=h.row x (List.mem_of_getElem? hk);obtain⟨es,he⟩:=this.1;exact⟨⟨es,he.keeps hK (hb.block x.1 he.own.lt (Y9 h.apart hk hr (fun e=>hik e.symm)))⟩,this.2⟩
 ·rw[JD];exact h.apart
theorem j8.swap (h:j8 w g R n) {i j:Nat} {a b:jr} (hi:R[i]? =some a) (hj:R[j]? =some b):j8 ((w.setCell ⟨g,i,none⟩ (jZ n b)).setCell ⟨g,j,none⟩ (jZ n a)) g (j9 R i j) n:=by
 have hB:jh g w ((w.setCell ⟨g,i,none⟩ (jZ n b)).setCell ⟨g,j,none⟩ (jZ n a)):=((jh.refl g w).setCell ⟨g,i,none⟩ rfl _).setCell ⟨g,j,none⟩ rfl _;have hK:=kr.but hB h.own (Zw n R);refine⟨?_,?_,?_⟩
 ·rw[Ko hi hj,List.map_set,List.map_set]
  exact(h.own.put _ _).put _ _
 ·intro x hx
  have hx:=Kl hx;have:=h.row x hx;obtain⟨es,he⟩:=this.1;exact⟨⟨es,he.keeps hK (hB.block x.1 he.own.lt (fun e=>h.gne hx e.symm))⟩,this.2⟩
 ·exact((Km R i j).map _).nodup_iff.2 h.apart
theorem j8.lt (h:j8 w g R n) {k:Nat} (hk:k=g∨k∈R.map (·.1)):k<w.heap.size:=by
 rcases hk with rfl | hk
 ·exact h.own.lt
 ·obtain⟨r,hr,rfl⟩:=List.mem_map.1 hk
  obtain⟨es,he⟩:=(h.row r hr).1;exact he.own.lt
end
def kI (w:World) (base:Nat) (v:Value) (V:List Rat):Prop:=
 ∃es:List El,w.ownsRow base 122 3 v V.length (jw es)∧es.length=V.length∧ks w kt v ∧ ∀(i:Nat) (e:El) (q:Rat),es[i]? =some e→V[i]? =some q→Rt w (k8 e) q
theorem kI.keep {w w':World} {base:Nat} {v:Value} {V:List Rat} (h:kI w base v V) (hK:kr w w') (hk:∀k,v.ownBlock=some k→w'.heap[k]? =w.heap[k]?):kI w' base v V:=by
 obtain⟨es,h1,h2,h3,h4⟩:=h;exact⟨es,xa h1 (fun k _ hv=>hk k hv),h2,h3.same hk,fun i e q he hq=>(h4 i e q he hq).keeps hK⟩
theorem kI.form {w:World} {base:Nat} {v:Value} {V:List Rat} (h:kI w base v V):∃A c,v = .slice A V.length c∧V.length≤c∧c≤maxLen:=by
 obtain⟨es,h1,_⟩:=h;exact j7 h1
theorem kI.lt {w:World} {base:Nat} {v:Value} {V:List Rat} (h:kI w base v V) (k:Nat) (hk:v.ownBlock=some k):base≤k∧k<w.heap.size:=by
 obtain⟨es,h1,_⟩:=h;exact h1.lt k hk
end Go.Proofs.YtneafcdfnhnpnaaGreatDoor
namespace Go.Proofs.YtneafcdfnhnpnaaGreatDoor
open Go.RowKit Go.Lib Go.Shelf
attribute [local go_sem] Oper.semAt_some
def x6 (p:List Int) (A:Option Addr) (b0 off:Nat) (w:World):Prop:=b0<w.heap.size ∧ ∀j u,(je p)[j]? =some u→A=some ⟨b0,off,none⟩∧w.cell? ⟨b0,off+j,none⟩=some u
def Jj (sb:Nat) (x:List Int) (v:Value) (w:World):Prop:=∃base,sb<base∧base≤w.heap.size∧w.ownsRow base 3 1 v x.length (je x)∧x≠[]
def xR (Bp b0 sb:Nat) (w w':World):Prop:=w.heap.size≤w'.heap.size∧w'.heap[sb]? =w.heap[sb]? ∧w'.heap[Bp]? =w.heap[Bp]? ∧w'.heap[b0]? =w.heap[b0]?
theorem xR.trans {Bp b0 sb:Nat} {a b c:World} (h:xR Bp b0 sb a b) (k:xR Bp b0 sb b c):xR Bp b0 sb a c:=
 ⟨Nat.le_trans h.1 k.1,k.2.1.trans h.2.1,k.2.2.1.trans h.2.2.1,k.2.2.2.trans h.2.2.2⟩
theorem jh.grownQ {g:Nat} {w a b:World} {row:Option Nat} (h:jh g w a) (hg:a.grownBy b row) (hr:∀k,row=some k→w.heap.size≤k):jh g w b:=
 ⟨hg.os.trans h.os,hg.tape.trans h.tape,hg.output.trans h.output,Nat.le_trans h.size hg.size,fun k hk hne=>(hg.block k (Nat.lt_of_lt_of_le hk h.size) (fun e=>by have:=hr k e.symm;omega)).trans (h.block k hk hne)⟩
theorem jh.allocQ {g:Nat} {w a:World} (h:jh g w a) (o:Obj):jh g w (a.alloc o):=
 ⟨h.os,h.tape,h.output,by simp;have:=h.size;omega,fun k hk hne=>(Below.heap_alloc a o k (Nat.lt_of_lt_of_le hk h.size)).trans (h.block k hk hne)⟩
theorem x6.same {p:List Int} {A:Option Addr} {b0 off:Nat} {w w':World} (h:x6 p A b0 off w) (hs:w.heap.size≤w'.heap.size) (hb:w'.heap[b0]? =w.heap[b0]?):x6 p A b0 off w':=
 ⟨Nat.lt_of_lt_of_le h.1 hs,fun j u hu=>⟨(h.2 j u hu).1,(World.cell?_of_block (a:=⟨b0,off+j,none⟩) hb).trans (h.2 j u hu).2⟩⟩
theorem Yp (p:List Int) (A:Option Addr) (c Bp b0 off:Nat) (hp:yw p) (hl:p.length≤256) (W:World) (hbox:W.cell? ⟨Bp,0,none⟩=some (.slice A p.length c)) (hBp:Bp<W.heap.size) (hR:x6 p A b0 off W):
  Ud Tryz.prog 191 #[.pointer (some ⟨Bp,0,none⟩)] (qI p) Jj (xR Bp b0) W:=by
 intro l J hJ hY h0;obtain⟨i0,hi0,hz0,hz1,hz2⟩:=info_parts y9;have HJ:=hid hJ;have HY:=hid hY;have HR:=hid hR;have HP:=hid hp;have hmk:=VN W p.length (by omega);clear hJ hY hR hp;refine callsIn_of_wp Tryz.func191 rfl trivial ?_ rfl;simp only[Tryz.ntmps191,List.size_toArray,List.length_cons,List.length_nil,Nat.reduceAdd,Nat.reduceSub,Array.replicate_succ,Array.replicate_zero,List.push_toArray,List.append_toArray,List.nil_append,List.cons_append]
 gi_wp2
 gi_loopg [12] p.length (fun gh ix wr=>∃k:Nat,ix = .int .i64 k∧k+gh=p.length∧Hid (J (jW p k).1 wr)∧Hid (ja wr W.heap.size 4 (ya (jW p k).2))∧Hid (wr.cell? ⟨Bp,0,none⟩=some (.slice A p.length c))∧Hid (x6 p A b0 off wr))
 case atStart=>
  have hB:=(Below.refl W.heap.size W).alloc (Nat.le_refl _) (.cells (ya (List.replicate p.length false)).toArray 4);exact⟨0,rfl,by omega,hid (HJ.out [] W _ h0 ((jh.refl _ _).allocQ _)),hid (ja.make _ _ _),hid ((hB.cell (p:=⟨Bp,0,none⟩) hBp).trans hbox),hid (HR.out.same hB.size (Below.heap_alloc _ _ _ HR.out.1))⟩
 case round=>
  obtain⟨k,rfl,hk,hJk,hO,hBx,hRd⟩:=hrel;generalize wr=wb at *;have hcl:=QR p k;clear hmk
  cases gk with
  | zero=>
   have hin:¬((k:Int)<(p.length:Int)):=by omega
   have hkk:k=p.length:=by omega
   subst hkk;clear hcl hO hBx hRd
   gi_wp2
   go_end0
   exact⟨⟨_,rfl⟩,hJk.out⟩
  | succ gh=>
   have hlt:k<p.length:=by omega
   have hlt':(k:Int)<(p.length:Int):=by omega
   have hck:=(hO.out.cell k).trans (Ya (jW p k).2 k (by omega));have hsb:=hO.out.lt
   cases hs:(jW p k).2[k]?.getD true with
   | true=>
    have hs2:(jW p k).2[k]?.getD false=true:=by
     rw[List.getElem?_eq_getElem (by omega)] at hs ⊢;exact hs
    have hstep:jW p (k+1)=jW p k:=by rw[jW,if_pos hs]
    rw[hs2] at hck;have HT:Hid (jW p (k+1)=jW p k):=hid hstep;clear hs hs2 hstep hcl
    gi_wp2
    gi_roundg gh
    case rel=>exact⟨k+1,by go_num,by omega,by rw[HT.out];exact hJk,by rw[HT.out];exact hO,hBx,hRd⟩
    case measure=>omega
   | false=>
    have hs2:(jW p k).2[k]?.getD false=false:=by
     rw[List.getElem?_eq_getElem (by omega)] at hs ⊢;exact hs
    obtain⟨post,hpost⟩:=Sr p hlt hs;rw[hs2] at hck;have HS:=hid hs;clear hs hs2;have HF:Hid (kM p p.length (jW p k).2 k=(kM p p.length (jW p k).2 k)):=hid rfl;have HSl:=hid hcl;have hb0:=HR.out.1;generalize hS0:(jW p k).2=S0 at *
    gi_wp2
    gi_loopg [5,6] p.length (fun gh2 cv iv wx=>∃(C:List Int) (s:List Bool) (i:Nat),iv = .int .i64 i∧i<p.length∧C.length+gh2=p.length∧Hid (kM p p.length S0 k=(C++(kM p gh2 s i).1,(kM p gh2 s i).2))∧Hid (JJ s≤gh2)∧s.length=p.length∧Hid (ja wx W.heap.size 4 (ya s))∧Hid (wx.ownsRow wb.heap.size 3 1 cv C.length (je C))∧Hid (jh W.heap.size wb wx))
    case atStart=>exact⟨[],S0,k,rfl,hlt,by simp,hid (by simp),hid (by have:=Lm S0;omega),hcl,hO,hid (World.ownsRow_nil _ _ _ _),hid (jh.refl _ _)⟩
    case round=>
     obtain⟨C,s,i,rfl,hi,hC,hF,hU,hsl,hOs,hcv,hW⟩:=hrel;have hci:=(hOs.out.cell i).trans (Ya s i (by omega));have hfr:=hOs.out.free i;have hwsz:=hW.out.size
     cases hs:s[i]?.getD true with
     | true=>
      have hs2:s[i]?.getD false=true:=by
       rw[List.getElem?_eq_getElem (by omega)] at hs ⊢;exact hs
      rw[hs2] at hci;have hfs:=hF.out;rw[Nu p gk s i hs,List.append_nil] at hfs;have hJx:=HJ.out _ _ _ hJk.out hW.out
      have hne:C≠[]:=by
       rintro rfl
       have:(kM p p.length S0 k).1=[]:=by rw[hfs]
       rw[show p.length=gh+k+1 by omega,kM,if_neg (by rw[HS.out];decide)] at this;cases this
      have hC1:(jW p (k+1))=((jW p k).1++[C],s):=by rw[jW,hS0,if_neg (by rw[HS.out];decide),hfs]
      obtain⟨fn,tmps,assign,body,hy,hRd2⟩:=HY.out (jW p k).1 C post u5 wr (by rw[hpost,hfs]) hJx (by omega) ⟨wb.heap.size,by omega,hwsz,hcv.out,hne⟩;have HC1:=hid hC1;have HBx2:=hid (((World.cell?_of_block (a:=⟨Bp,0,none⟩) (hW.out.block Bp (by omega) (by omega))).trans hBx.out));have HRd2:=hid (hRd.out.same hwsz (hW.out.block b0 (by omega) (by omega)));clear hs hs2 hfs hne hC1 hJx hpost hF hU hcv hBx hRd
      gi_wp2
      refine hRd2.mono ?_;rintro e W3 ⟨rfl,hJ3,hk3⟩;have HJ3:=hid hJ3;have HK3:=hid hk3;clear hJ3 hk3 hRd2
      gi_wp2
      gi_roundg gh
      case rel=>
       refine⟨k+1,by go_num,by omega,?_,?_,?_,?_⟩
       ·rw[HC1.out];exact HJ3
       ·rw[HC1.out];exact hid (HK3.out.2.1.trans hOs.out)
       ·exact hid ((World.cell?_of_block (a:=⟨Bp,0,none⟩) HK3.out.2.2.1).trans HBx2.out)
       ·exact hid (HRd2.out.same HK3.out.1 HK3.out.2.2.2)
      case measure=>omega
     | false=>
      have hs2:s[i]?.getD false=false:=by
       rw[List.getElem?_eq_getElem (by omega)] at hs ⊢;exact hs
      have hs3:s[i]? =some false:=by
       rw[List.getElem?_eq_getElem (by omega)] at hs ⊢;exact congrArg some hs
      rw[hs2] at hci
      cases gk with
      | zero=>have:=ZP s i hs3;have:=hU.out;omega
      | succ g2=>
       have hU2:Hid (JJ (s.set i true)≤g2):=hid (by have:=ZP s i hs3;have:=hU.out;omega);have hpi:=HP.out.1 (p[i]?.getD 0) (by rw[List.getElem?_eq_getElem hi];exact List.getElem_mem hi);obtain⟨hA0,hpc⟩:=HR.out.2 i _ (kA p i hi);have hF2:=hF.out;rw[kM,if_neg (by rw[hs];decide)] at hF2;obtain⟨_,hpcb⟩:=hRd.out.2 i _ (kA p i hi)
       have hfrom:∀w2:World,jh W.heap.size wb w2→w2.cell? ⟨Bp,0,none⟩=some (.slice A p.length c)∧w2.cell? ⟨b0,off+i,none⟩=some (.int .i64 (p[i]?.getD 0)):=fun w2 hb=>
        ⟨(World.cell?_of_block (a:=⟨Bp,0,none⟩) (hb.block Bp (by omega) (by omega))).trans hBx.out,(World.cell?_of_block (a:=⟨b0,off+i,none⟩) (hb.block b0 (by omega) (by omega))).trans hpcb⟩
       generalize p[i]?.getD 0=x at *;obtain⟨j,rfl⟩:=Int.eq_ofNat_of_zero_le hpi.1
       have hjp:j<p.length:=by omega
       have HF2:Hid (kM p p.length S0 k=((C++[(i:Int)])++(kM p g2 (s.set i true) j).1,(kM p g2 (s.set i true) j).2)):=hid (by rw[hF2];simp);subst hA0
       have hkc:C.length<256:=by omega
       have HFR:=hid hfrom;have HO2:=hid (show ja (wr.setCell ⟨W.heap.size,i,none⟩ (.bool true)) W.heap.size 4 (ya (s.set i true)) from by rw[←Uu];exact hOs.out.put i _);have HW2:=hid (hW.out.setCell (p:=⟨W.heap.size,i,none⟩) rfl (.bool true));have HC2:=hid (show (wr.setCell ⟨W.heap.size,i,none⟩ (.bool true)).ownsRow wb.heap.size 3 1 u5 C.length (je C) from xa hcv.out (fun k' _ e=>Below.heap_setCell _ _ _ _ (fun e2=>by have:=(hcv.out.lt k' e).1;dsimp only at e2;omega)))
       have hnew:∀(j':Nat) (u:Value),[Value.int .i64 (i:Int)][j']? =some u→((wr.setCell ⟨W.heap.size,i,none⟩ (.bool true)).alloc (.cells #[.int .i64 (i:Int)] 3)).cell? ((⟨wr.heap.size,0,none⟩:Addr).add j')=some u:=by
        have h:=cell_one_new (wr.setCell ⟨W.heap.size,i,none⟩ (.bool true)) (.int .i64 (i:Int)) 3
        have e:(wr.setCell ⟨W.heap.size,i,none⟩ (.bool true)).heap.size=wr.heap.size:=by simp
        rw[e] at h;exact h
       have HN:=hid hnew;clear hs hs2 hs3 hF hU hF2 hpc hpcb hfrom hpost hcv hOs hW hnew
       gi_wp2_with (gi_at_builtin;(refine wpListIn_append_own _ rfl _ _ 50 rfl wb.heap.size 3 i0 (.int .i64 0) 1 8 Tryz.underlying50 hi0 hz0 hz1 hz2 rfl (by decide) _ _ _ rfl (HC2.out.alloc _) ⟨wr.heap.size,0,none⟩ 1 1 [.int .i64 i] rfl rfl HN.out (fun x hx=>by simp at hx;subst hx;rfl) (by unfold maxLen;omega) (by omega) (by simp;omega) ?_;intro v' w1 hown' hgrow _;have hB1:=((HW2.out.allocQ (.cells #[.int .i64 (i:Int)] 3))).grownQ hgrow (fun k' e=>(HC2.out.lt k' e).1);obtain⟨hx1,hx2⟩:=HFR.out _ hB1;have HO3:=hid ((HO2.out.alloc (.cells #[.int .i64 (i:Int)] 3)).grown hgrow (fun e=>by have:=(HC2.out.lt _ e).1;omega));have HC3:=hid hown';have HB1:=hid hB1;clear hown' hgrow hB1))
       gi_roundg g2
       case rel=>
        exact⟨C++[(i:Int)],s.set i true,j,rfl,hjp,by simp;omega,HF2,hU2,by simpa using hsl,HO3,hid (by simpa [je] using HC3.out),HB1⟩
       case measure=>omega
