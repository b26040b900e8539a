/- Contracts: the library's slices over rational numbers: Reverse. -/
import Derived.Test.YteagkgagdelklaaGreatDoorZT16
import Derived.Test.YteagkgagdelklaaGreatDoorZT13
set_option maxRecDepth 100000
set_option maxHeartbeats 4000000
namespace Go.Proofs.YteagkgagdelklaaGreatDoor
open Go.RowKit Go.Lib
theorem MS (w:World) (b n c:Nat) (es:List El) (L:List Rat) (hO:jq w b es L) (hn:n=L.length) (hc1:n≤c) (hc2:c≤9223372036854775807):
  Calls Tryz.prog 86 #[.slice (some ⟨b,0,none⟩) n c] w fun e w'=>e = .returned (.tuple #[])∧(∃es',jq w' b es' L.reverse)∧jk b w w':=by
 have hb:b<w.heap.size:=hO.own.lt
 have hst:jq w b es (xc L 0):=by rw[MQ];exact hO
 have HN:=hid hn;clear hO hn;go_enter Tryz.func86,Tryz.ntmps86
 go_wp2_with fail
 go_loopg [2,3] n (fun gh i j wr=>∃k:Nat,i = .int .i64 k∧j = .int .i64 ((n:Int)-1-k)∧k+gh=n∧2*k≤n+1∧Hid (∃es',jq wr b es' (xc L k))∧jk b w wr)
 case atStart=>exact⟨0,rfl,by go_num,by omega,by omega,hid ⟨es,hst⟩,jk.refl _ _⟩
 case round=>
  clear hst;obtain⟨k,rfl,rfl,hk,hk2,hO,hB⟩:=hrel;by_cases hlt:2*k+1<n
  ·have hti:(k:Int)<(n:Int)-1-k:=by omega
   have hjj:(n:Int)-1-k=((n-1-k:Nat):Int):=by omega
   have hl:=HN.out;obtain⟨es1,hR⟩:=hO.out;have e1:=Ym L k k (Nat.le_refl _) (by omega);have e2:=Ym L k (n-1-k) (by omega) (by omega);obtain⟨u,A1,n1,c1,A2,n2,c2,zz0,hu,hru,x0,x1,x2,f0,f1,f2⟩:=hR.at_ (j:=k) (by rw[Kc];omega);obtain⟨v,B1,m1,d1,B2,m2,d2,zz1,hv,hrv,y0,y1,y2,g0,g1,g2⟩:=hR.at_ (j:=n-1-k) (by rw[Kc];omega);clear zz0 zz1;obtain⟨u0,ua,ub⟩:=u
   have hua:ua = .slice A1 n1 c1∧ub = .slice A2 n2 c2:=by simpa using hu
   obtain⟨rfl,rfl⟩:=hua;obtain⟨v0,va,vb⟩:=v
   have hva:va = .slice B1 m1 d1∧vb = .slice B2 m2 d2:=by simpa using hv
   obtain⟨rfl,rfl⟩:=hva;clear hu hv;rw[e1] at hru;rw[e2] at hrv;dsimp only at x0 y0
   have hne:¬k=n-1-k:=by omega
   have hln:=hR.own.lt;have Hs:=hid (MP L k (L[k]?.getD 0) (L[n-1-k]?.getD 0) (by omega) (by rw[Qaa (by omega)];rfl) (by rw[←hl,Qaa (by omega)];rfl));rw[←hl] at Hs
   have hjn:n-1-k<n:=by omega
   have HP:Hid (∃es',jq ((((((wr.setCell ⟨b,k*3,none⟩ (.bool v0)).setCell ⟨b,k*3+1,none⟩ (.slice B1 m1 d1)).setCell ⟨b,k*3+2,none⟩ (.slice B2 m2 d2)).setCell ⟨b,(n-1-k)*3,none⟩ (.bool u0)).setCell ⟨b,(n-1-k)*3+1,none⟩ (.slice A1 n1 c1)).setCell ⟨b,(n-1-k)*3+2,none⟩ (.slice A2 n2 c2)) b es' (xc L (k+1))):=hid (by
    have h1:=hR.put (j:=k) (e:=(v0,.slice B1 m1 d1,.slice B2 m2 d2)) (q:=L[n-1-k]?.getD 0) (by rw[Kc];omega) hrv;have hru2:=hru.stay hR.own hR.noInt (jk.set3 wr b (k*3) (.bool v0) (.slice B1 m1 d1) (.slice B2 m2 d2));have h2:=h1.put (j:=n-1-k) (e:=(u0,.slice A1 n1 c1,.slice A2 n2 c2)) (q:=L[k]?.getD 0) (by rw[Qbz,Kc];omega) hru2;rw[Hs.out] at h2
    exact⟨_,h2⟩)
   clear e1 e2 hl hru hrv;rw[hjj] at hti ⊢;generalize hj:n-1-k=j at *;have Hj:=hid hj;have Hjj:=hid hjj
   have hbt:=(jk.set3 (((wr.setCell ⟨b,k*3,none⟩ (.bool v0)).setCell ⟨b,k*3+1,none⟩ (.slice B1 m1 d1)).setCell ⟨b,k*3+2,none⟩ (.slice B2 m2 d2)) b (j*3) (.bool u0) (.slice A1 n1 c1) (.slice A2 n2 c2))
   have HBt:=hid ((hB.trans (jk.set3 wr b (k*3) (.bool v0) (.slice B1 m1 d1) (.slice B2 m2 d2))).trans hbt);clear hj hjj hR hO hbt
   go_wp2_with fail
   go_region
   have HP2:=hid (HP.out);clear hB Hs x0 x1 x2 y0 y1 y2 f0 f1 f2 g0 g1 g2
   go_wp2
   go_roundg (gk-1)
   case rel=>exact⟨k+1,by go_num,by have:=Hj.out;go_num,by have:=Hj.out;omega,by omega,hid (by obtain⟨es',h⟩:=HP2.out;exact⟨es',h.below ((Below.refl _ _).drew)⟩),HBt.out.below ((Below.refl _ _).drew)⟩
   case measure=>omega
  ·have hti:¬((k:Int)<(n:Int)-1-k):=by omega
   have HO:=hid (show ∃es',jq wr b es' L.reverse by rw[←MO L k (by have:=HN.out;omega)];exact hO.out);clear hO
   go_wp2
   go_end0
   exact⟨rfl,HO.out,hB⟩
end Go.Proofs.YteagkgagdelklaaGreatDoor
namespace Go.Proofs.YteagkgagdelklaaGreatDoor
open Go.RowKit
noncomputable def jE (p:Int):Fd Int:=⟨0,fun x=>x==0,fun a b=>(a-b)%p,fun a b=>a*b%p,QI p⟩
theorem VT (p d:Int) (o n:Nat) (L:List Int) (h:o+n=L.length):qg (zD p d) o n L=j3 (jE p) d o L:=by
 unfold qg j3;apply Qaw;intro j;simp only[Qaj];rcases Qae j L.length with hl | hl
 ·rw[Qaa hl]
  simp only[QaC,QaT];by_cases h2:o≤j
  ·rw[if_pos ⟨h2,by omega⟩,if_pos h2];simp[zD,jE]
  ·rw[if_neg (by omega),if_neg h2]
 ·rw[Qah hl];rfl
theorem Vz (p:Int) (o n:Nat) (L P:List Int) (h:o+n=L.length):KE p o n L o P=kY (jE p) o L P:=by
 unfold KE kY;have hz:(jE p).z=0:=rfl
 have hi:∀x,((jE p).isZ x=true)=(x=0):=fun x=>by simp[jE]
 rw[hz];simp only[hi];split
 ·rfl
 ·unfold xU
  apply Qaw;intro j;simp only[Qaj];rcases Qae j L.length with hl | hl
  ·rw[Qaa hl]
   simp only[QaC,QaT];by_cases h2:o≤j
   ·rw[if_pos ⟨h2,by omega⟩,if_pos h2,show o+(j-o)=j by omega];simp[Ji,jE]
   ·rw[if_neg (by omega),if_neg h2]
  ·rw[Qah hl];rfl
structure jO (s:List Nat) (w w':World):Prop where
 os:w'.os=w.os
 tape:w'.tape=w.tape
 output:w'.output=w.output
 size:w.heap.size≤w'.heap.size
 block:∀k,k<w.heap.size→k ∉ s→w'.heap[k]? =w.heap[k]?
section
variable {s:List Nat} {a b c:World}
theorem jO.refl (s:List Nat) (w:World):jO s w w:=⟨rfl,rfl,rfl,Nat.le_refl _,fun _ _ _=>rfl⟩
theorem jO.trans (h:jO s a b) (k:jO s b c):jO s a c:=
 ⟨k.os.trans h.os,k.tape.trans h.tape,k.output.trans h.output,Qap h.size k.size,fun i hi hg=>(k.block i (Qac hi h.size) hg).trans (h.block i hi hg)⟩
theorem jO.of_below (h:Below a.heap.size a b):jO s a b:=⟨h.os,h.tape,h.output,h.size,fun i hi _=>h.block i hi⟩
theorem jO.of_but {g:Nat} (h:jk g a b) (hg:g∈s):jO s a b:=⟨h.os,h.tape,h.output,h.size,fun i hi hn=>h.block i hi (fun e=>hn (e ▸ hg))⟩
theorem jO.below (h:jO s a b) (k:Below b.heap.size b c):jO s a c:=h.trans (jO.of_below k)
theorem jO.but {g:Nat} (h:jO s a b) (k:jk g b c) (hg:g∈s):jO s a c:=h.trans (jO.of_but k hg)
theorem jO.setCell (h:jO s a b) (p:Addr) (hp:p.block∈s) (u:Value):jO s a (b.setCell p u):=
 h.trans ⟨rfl,rfl,rfl,by simp[World.setCell],fun k _ hg=>Below.heap_setCell _ _ _ _ (fun e=>hg (e ▸ hp))⟩
theorem jO.setNew (h:jO s a b) (p:Addr) (hp:a.heap.size≤p.block) (u:Value):jO s a (b.setCell p u):=
 ⟨h.os,h.tape,h.output,Qap h.size (by simp[World.setCell]),fun k hk hg=>(Below.heap_setCell _ _ _ _ (by omega)).trans (h.block k hk hg)⟩
theorem jO.drew (h:jO s a b):jO s a b.drew:=⟨h.os,h.tape,h.output,h.size,h.block⟩
theorem jO.grown (h:jO s a b) {row:Option Nat} (hg:b.grownBy c row) (hr:∀k,row=some k→a.heap.size≤k):jO s a c:=
 ⟨hg.os.trans h.os,hg.tape.trans h.tape,hg.output.trans h.output,Qap h.size hg.size,
  fun i hi hs=>(hg.block i (Qac hi h.size) (fun e=>by have:=hr i e.symm;omega)).trans (h.block i hi hs)⟩
theorem ja.grown {g:Nat} {t:TypeId} {cs:List Value} {row:Option Nat} (o:ja a g t cs) (hg:a.grownBy b row) (hr:row≠some g):ja b g t cs:=
 (hg.block g o.lt (fun e=>hr e.symm)).trans o
theorem xt {base:Nat} {e:TypeId} {size:Nat} {v:Value} {n:Nat} {xs:List Value} (h:a.ownsRow base e size v n xs) (hk:∀k,k<a.heap.size→v.ownBlock=some k→b.heap[k]? =a.heap[k]?):b.ownsRow base e size v n xs:=by
 refine⟨h.1,?_⟩
 rcases h.2 with hn | ⟨g,cap,cur,rfl,hb,hgg,rest⟩
 ·exact .inl hn
 ·exact .inr ⟨g,cap,cur,rfl,hb,(hk g (Array.getElem?_eq_some_iff.1 hgg).1 rfl).trans hgg,rest⟩
theorem kD {base:Nat} {e:TypeId} {size:Nat} {v:Value} {n:Nat} {xs:List Value} (h:a.ownsRow base e size v n xs) (hb:Below a.heap.size a b):b.ownsRow base e size v n xs:=
 xt h fun k hk _=>hb.block k hk
theorem QF {base:Nat} {e:TypeId} {size:Nat} {v:Value} {n:Nat} {xs:List Value} (h:a.ownsRow base e size v n xs) {g:Nat} (hb:jk g a b) (hg:g<base):b.ownsRow base e size v n xs:=
 xt h fun k hk hv=>hb.block k hk (by have:=(h.lt k hv).1;omega)
theorem xP {base:Nat} {e:TypeId} {size:Nat} {v:Value} {n:Nat} {xs:List Value} (h:a.ownsRow base e size v n xs) (p:Addr) (hp:p.block<base) (u:Value):(a.setCell p u).ownsRow base e size v n xs:=
 xt h fun k _ hv=>Below.heap_setCell _ _ _ _ (by have:=(h.lt k hv).1;omega)
end
theorem ZX {R:List jS} (h:(R.map (·.1)).Nodup) {i j:Nat} {a b:jS} (hi:R[i]? =some a) (hj:R[j]? =some b) (hij:i≠j):a.1≠b.1:=by
 intro e
 have h1:(R.map (·.1))[i]? =some a.1:=by rw[Qao,hi];rfl
 have h2:(R.map (·.1))[j]? =some a.1:=by rw[Qao,hj,e];rfl
 exact hij ((List.getElem?_inj (List.getElem?_eq_some_iff.1 h1).1 h).1 (h1.trans h2.symm))
section
variable {w w':World} {g n:Nat} {R:List jS}
theorem kj.gne (h:kj w g R n) {r:jS} (hr:r∈R):g≠r.1:=h.own.apart (h.row r hr).1 (by decide)
theorem kj.setRow (h:kj w g R n) {i:Nat} {r:jS} (hr:R[i]? =some r) {L:List Int} (hO:ja w' r.1 2 (je L)) (hl:L.length=n) (hb:jk r.1 w w'):kj w' g (setRow R i L) n:=by
 refine⟨?_,?_,?_⟩
 ·have e:(Go.Proofs.YteagkgagdelklaaGreatDoor.setRow R i L).map (qL n)=R.map (qL n):=UC i L (fun b c=>Value.slice (some ⟨b,0,none⟩) n c)
  rw[e];exact h.own.but hb (h.gne (Qab hr))
 ·intro x hx
  obtain⟨k,hk⟩:=List.mem_iff_getElem?.1 hx;by_cases hik:i=k
  ·subst hik
   rw[qG hr] at hk;obtain rfl:=QaE hk;have:=h.row r (Qab hr);exact⟨hO,hl,this.2.2.1,this.2.2.2⟩
  ·rw[xQ hik] at hk
   have:=h.row x (Qab hk);exact⟨this.1.but hb (ZX h.apart hk hr (fun e=>hik e.symm)),this.2⟩
 ·rw[Kd];exact h.apart
theorem kj.swap (h:kj w g R n) {i j:Nat} {a b:jS} (hi:R[i]? =some a) (hj:R[j]? =some b):kj ((w.setCell ⟨g,i,none⟩ (qL n b)).setCell ⟨g,j,none⟩ (qL n a)) g (kU R i j) n:=by
 refine⟨?_,?_,?_⟩
 ·rw[K5 hi hj,QbO,QbO]
  exact(h.own.put _ _).put _ _
 ·intro x hx
  have hx:=Ki hx;have:=h.row x hx;exact⟨(this.1.other (p:=⟨g,i,none⟩) (fun e=>h.gne hx e.symm) _).other (p:=⟨g,j,none⟩) (fun e=>h.gne hx e.symm) _,this.2⟩
 ·exact((K4 R i j).map _).nodup_iff.2 h.apart
theorem kj.keep (h:kj w g R n) (hk:∀k,k=g∨k∈R.map (·.1)→w'.heap[k]? =w.heap[k]?):kj w' g R n:=
 ⟨(hk g (.inl rfl)).trans h.own,fun r hr=>⟨(hk r.1 (.inr (Qa1 hr))).trans (h.row r hr).1,(h.row r hr).2⟩,h.apart⟩
theorem kj.lt (h:kj w g R n) {k:Nat} (hk:k=g∨k∈R.map (·.1)):k<w.heap.size:=by
 rcases hk with rfl | hk
 ·exact h.own.lt
 ·obtain⟨r,hr,rfl⟩:=List.mem_map.1 hk
  exact(h.row r hr).1.lt
end
def yg (p:Int) (R:List jS):Prop:=∀r∈R,∀x∈r.2.2,0≤x∧x<p
theorem yg.swap {p:Int} {R:List jS} (h:yg p R) (i j:Nat):yg p (kU R i j):=fun r hr=>h r (Ki hr)
theorem yg.set {p:Int} {R:List jS} (h:yg p R) (i:Nat) {L:List Int} (hL:∀x∈L,0≤x∧x<p):yg p (setRow R i L):=by
 intro r hr
 rcases Oy hr with hr | ⟨q,_,_,rfl⟩
 ·exact h r hr
 ·exact hL
theorem Gc {α:Type} {Q:α→Prop} {f:Nat→α→α} {L:List α} (h:∀j x,x∈L→Q (f j x)):∀x∈L.mapIdx f,Q x:=by
 intro x hx;obtain⟨k,hk⟩:=List.mem_iff_getElem?.1 hx;rw[Qaj] at hk
 cases hL:L[k]? with
 | none=>rw[hL] at hk;cases hk
 | some y=>rw[hL] at hk;obtain rfl:=QaE hk;exact h k y (Qab hL)
theorem XG {p:Int} (hp:0<p) (d:Int) (o:Nat) {L:List Int} (h:∀x∈L,0≤x∧x<p):∀x∈j3 (jE p) d o L,0≤x∧x<p:=by
 refine Gc fun j x hx=> ?_
 split
 ·split
  ·exact h x hx
  ·exact⟨Qb7 _ (by omega),QbS _ hp⟩
 ·exact h x hx
theorem VB {p:Int} (hp:0<p) (o:Nat) {L P:List Int} (h:∀x∈L,0≤x∧x<p):∀x∈kY (jE p) o L P,0≤x∧x<p:=by
 unfold kY;split
 ·exact h
 ·refine Gc fun j x hx=> ?_
  split
  ·split
   ·exact h x hx
   ·exact⟨Qb7 _ (by omega),QbS _ hp⟩
  ·exact h x hx
theorem jX {w:World} {base:Nat} {e:TypeId} {size:Nat} {v:Value} {n:Nat} {xs:List Value} (h:w.ownsRow base e size v n xs):∃A c,v = .slice A n c∧n≤c∧c≤maxLen:=by
 rcases h.2 with ⟨rfl,rfl⟩ | ⟨g,cap,cur,rfl,_,_,h1,h2,_⟩
 ·exact⟨none,0,rfl,Nat.le_refl _,by unfold maxLen;omega⟩
 ·exact⟨_,_,rfl,h1,h2⟩
theorem ja.four {w:World} {g:Nat} {t:TypeId} {a b c d:Value} (h:ja w g t [a,b,c,d]):
  w.cell? ⟨g,0,none⟩=some a∧w.cell? ⟨g,1,none⟩=some b∧w.cell? ⟨g,2,none⟩=some c∧w.cell? ⟨g,3,none⟩=some d∧w.frozen? ⟨g,0,none⟩=false∧w.frozen? ⟨g,1,none⟩=false∧w.frozen? ⟨g,2,none⟩=false∧w.frozen? ⟨g,3,none⟩=false:=
 ⟨h.cell 0,h.cell 1,h.cell 2,h.cell 3,h.free 0,h.free 1,h.free 2,h.free 3⟩
end Go.Proofs.YteagkgagdelklaaGreatDoor
namespace Go.Proofs.YteagkgagdelklaaGreatDoor
section
variable {f:Nat→Int→Int} {L:List Int} {k:Nat}
end
section
variable {T:Type} {F:Fd T} {n k c:Nat} {S:jw T}
theorem Dl (h:∀t,S.cols.length≤t→t<S.rows.length→F.isZ (jC F S.rows t c)=true) (hc:c<n):jy F n k c S=jy F n k (c+1) S:=by
 cases k with
 | zero=>rfl
 | succ k=>
  have e:kK F S.rows S.cols.length (n-c) c=kK F S.rows S.cols.length (n-(c+1)) (c+1):=by
   rw[show n-c=(n-(c+1))+1 by omega]
   conv=>lhs;unfold kK
   rw[Zs _ _ (fun t a b=>h t a (by omega))]
  conv=>lhs;unfold jy
  conv=>rhs;unfold jy
  rw[e]
theorem Wa (hc:n≤c):jy F n k c S=S:=by
 cases k with
 | zero=>rfl
 | succ k=>
  unfold jy;rw[show n-c=0 by omega];rfl
theorem V7 (hk:k=0):jy F n k c S=S:=by subst hk;rfl
theorem Pg {α:Type} {R:List α} {i:Nat} (hi:i<R.length):kU R i i=R:=by
 have h:=Qaa hi;rw[K5 h h]
 simp
theorem Zp {row:Nat} (hr:row<S.rows.length):j8 row S=kU S.rows row S.cols.length:=by
 unfold j8;split
 ·rename_i h;rw[←h,Pg hr]
 ·rfl
end
section
variable {K:Type} [Lean.Grind.Field K] {T:Type} {F:Fd T} {P:T→Prop} {φ:T→K}
theorem Dp (H:yz F P φ) {m n row col:Nat} {S:jw T} (hG:qH P m n S.rows) (hq:S.cols.length<m) (hqr:S.cols.length≤row) (hr:row<m) (hd:F.isZ (jC F S.rows row col)=false)
  (h0:∀i,S.cols.length≤i→i<m → ∀k,k<col→F.isZ (jC F S.rows i k)=true):
  ∀i,S.cols.length+1≤i→i<m → ∀k,k<col+1→F.isZ (jC F (kg F row col S).rows i k)=true:=by
 have hP:∀i,i<m → ∀j,P (jC F S.rows i j):=fun i hi j=>JD H (hG.2 i hi).2 j
 have hz:∀i,S.cols.length≤i→i<m → ∀k,k<col→φ (jC F S.rows i k)=0:=fun i h1 h2 k hk=>(H.isZ _ (hP i h2 k)).1 (h0 i h1 h2 k hk)
 have hd0:φ (jC F S.rows row col)≠0:=fun e=>by
  have:=(H.isZ _ (hP row hr col)).2 e;rw[hd] at this;cases this
 obtain⟨G2,hs⟩:=Wd H hG hq hr hd0 (fun k hk=>hz row hqr hr k hk);have hdd:=Lean.Grind.Field.mul_inv_cancel hd0;intro i h1 h2 k hk
 have hsm:sw S.cols.length row i<m:=by unfold sw;split;exact hr;split <;> omega
 have hsq:S.cols.length≤sw S.cols.length row i:=by unfold sw;split;exact hqr;split <;> omega
 refine(H.isZ _ (JD H (G2.2 i h2).2 k)).2 ?_
 show φ (jC F (kg F row col S).rows i k)=0
 rw[hs i h2 k];unfold qy;rw[if_neg (by omega)];dsimp only;rcases Qae k col with h3 | h3
 ·rw[hz _ hsq hsm k h3,hz row hqr hr k h3];grind
 ·have:k=col:=by omega
  subst this
  grind
end
end Go.Proofs.YteagkgagdelklaaGreatDoor
namespace Go.Proofs.YteagkgagdelklaaGreatDoor
open Go.RowKit Go.Lib
def kx (c:Value):Prop:=∀n,c ≠ .int .u64 n
theorem ko.noU {c:Value} (h:ko c):kx c:=fun n=>h _ n
def kv (w w':World):Prop:=w.heap.size≤w'.heap.size ∧ ∀b,b<w.heap.size→w'.heap[b]? =w.heap[b]? ∨ ∀cur e fr,w.heap[b]? =some (.cells cur e fr) → ∀c∈cur.toList,kx c
theorem TC {w:World} {b o:Nat} {u:Value} (hu:w.cell? ⟨b,o,none⟩=some u):∃cur e fr,w.heap[b]? =some (.cells cur e fr)∧u∈cur.toList:=by
 unfold World.cell? at hu;dsimp only at hu;split at hu
 ·rename_i c e fr hc
  simp at hu;exact⟨c,e,fr,hc,Array.mem_toList_iff.2 (Array.mem_of_getElem? hu)⟩
 ·cases hu
theorem Nt.keeps {w w':World} {v:Value} {x:Nat} (h:Nt w v x) (hk:kv w w'):Nt w' v x:=by
 obtain⟨ws,h1,h2,h3,A,n,c,hv,h4,h5,h6,h7⟩:=h;refine⟨ws,h1,h2,h3,A,n,c,hv,h4,h5,h6,fun hn=> ?_⟩;obtain⟨b,off,hA,hlt,hcell⟩:=h7 hn;refine⟨b,off,hA,Qac hlt hk.1,fun j u hu=> ?_⟩;have hj:=hcell j u hu;rcases hk.2 b hlt with hs | hs
 ·exact(World.cell?_of_block (a:=⟨b,off+j,none⟩) hs).trans hj
 ·obtain⟨y,_,hy⟩:=List.mem_map.1 (Qab hu)
  obtain⟨cur,e,fr,h8,h9⟩:=TC hj;exact absurd hy.symm (hs cur e fr h8 u h9 _)
theorem Rt.keeps {w w':World} {v:Value} {q:Rat} (h:Rt w v q) (hk:kv w w'):Rt w' v q:=by
 obtain⟨nv,dv,hv,h1,h2⟩:=h;exact⟨nv,dv,hv,h1.keeps hk,h2.keeps hk⟩
section
variable {w w':World}
theorem kv.below (h:Below w.heap.size w w'):kv w w':=⟨h.size,fun b hb=> .inl (h.block b hb)⟩
theorem kv.but {g:Nat} {t:TypeId} {cs:List Value} (h:jk g w w') (hO:ja w g t cs) (hc:∀c∈cs,ko c):kv w w':=by
 refine⟨h.size,fun b hb=> ?_⟩;by_cases hg:b=g
 ·subst hg
  refine .inr fun cur e fr hh c hm=> ?_
  unfold ja at hO;rw[hO] at hh
  injection hh with hh
  injection hh with hh _ _
  subst hh;exact(hc c (by simpa using hm)).noU
 ·exact .inl (h.block b hb hg)
theorem kv.grown {base:Nat} {e:TypeId} {size n:Nat} {v:Value} {xs:List Value} (h:w.grownBy w' v.ownBlock) (ho:w.ownsRow base e size v n xs) (ha:kw w kx v):kv w w':=by
 refine⟨h.size,fun b hb=> ?_⟩;by_cases hg:some b=v.ownBlock
 ·refine .inr fun cur e' fr hh c hm=> ?_
  rcases ho.2 with ⟨rfl,_⟩ | ⟨g,cap,cur2,rfl,_,hg2,_⟩
  ·simp[Value.ownBlock] at hg
  ·simp[Value.ownBlock] at hg
   subst hg;rw[hg2] at hh
   injection hh with hh
   injection hh with h1 h2 h3
   subst h1 h2 h3;exact ha _ _ _ rfl hg2 c hm
 ·exact .inl (h.block b hb hg)
end
theorem Uv (n:Nat) (R:List js):∀c∈R.map (jV n),ko c:=by
 intro c hc;obtain⟨r,_,rfl⟩:=List.mem_map.1 hc;exact jr _ _ _
section
variable {w w':World} {g n:Nat} {R:List js}
theorem ZY {R:List js} (h:(R.map (·.1)).Nodup) {i j:Nat} {a b:js} (hi:R[i]? =some a) (hj:R[j]? =some b) (hij:i≠j):a.1≠b.1:=by
 intro e
 have h1:(R.map (·.1))[i]? =some a.1:=by rw[Qao,hi];rfl
 have h2:(R.map (·.1))[j]? =some a.1:=by rw[Qao,hj,e];rfl
 exact hij ((List.getElem?_inj (List.getElem?_eq_some_iff.1 h1).1 h).1 (h1.trans h2.symm))
theorem j5.gne (h:j5 w g R n) {r:js} (hr:r∈R):g≠r.1:=by
 obtain⟨es,he⟩:=(h.row r hr).1;exact h.own.apart he.own (by decide)
theorem jq.keeps {b:Nat} {es:List El} {qs:List Rat} (h:jq w b es qs) (hk:kv w w') (hb:w'.heap[b]? =w.heap[b]?):jq w' b es qs:=
 ⟨hb.trans h.own,h.len,h.noi,fun i e q he hq=>(h.num i e q he hq).keeps hk⟩
theorem j5.keep (h:j5 w g R n) (hK:kv w w') (hk:∀k,k=g∨k∈R.map (·.1)→w'.heap[k]? =w.heap[k]?):j5 w' g R n:=
 ⟨(hk g (.inl rfl)).trans h.own,fun r hr=>⟨by obtain⟨es,he⟩:=(h.row r hr).1;exact⟨es,he.keeps hK (hk r.1 (.inr (Qa1 hr)))⟩,(h.row r hr).2⟩,h.apart⟩
theorem j5.setRow (h:j5 w g R n) {i:Nat} {r:js} (hr:R[i]? =some r) {L:List Rat} (hO:∃es,jq w' r.1 es L) (hl:L.length=n) (hb:jk r.1 w w'):j5 w' g (setRow R i L) n:=by
 obtain⟨es0,he0⟩:=(h.row r (Qab hr)).1;have hK:=kv.but hb he0.own he0.noInt;refine⟨?_,?_,?_⟩
 ·have e:(Go.Proofs.YteagkgagdelklaaGreatDoor.setRow R i L).map (jV n)=R.map (jV n):=UC i L (fun b c=>Value.slice (some ⟨b,0,none⟩) n c)
  rw[e];exact h.own.but hb (h.gne (Qab hr))
 ·intro x hx
  obtain⟨k,hk⟩:=List.mem_iff_getElem?.1 hx;by_cases hik:i=k
  ·subst hik
   rw[qG hr] at hk;obtain rfl:=QaE hk;have:=h.row r (Qab hr);exact⟨hO,hl,this.2.2.1,this.2.2.2⟩
  ·rw[xQ hik] at hk
   have:=h.row x (Qab hk);obtain⟨es,he⟩:=this.1;exact⟨⟨es,he.keeps hK (hb.block x.1 he.own.lt (ZY h.apart hk hr (fun e=>hik e.symm)))⟩,this.2⟩
 ·rw[Kd];exact h.apart
theorem j5.swap (h:j5 w g R n) {i j:Nat} {a b:js} (hi:R[i]? =some a) (hj:R[j]? =some b):j5 ((w.setCell ⟨g,i,none⟩ (jV n b)).setCell ⟨g,j,none⟩ (jV n a)) g (kU R i j) n:=by
 have hB:jk g w ((w.setCell ⟨g,i,none⟩ (jV n b)).setCell ⟨g,j,none⟩ (jV n a)):=((jk.refl g w).setCell ⟨g,i,none⟩ rfl _).setCell ⟨g,j,none⟩ rfl _;have hK:=kv.but hB h.own (Uv n R);refine⟨?_,?_,?_⟩
 ·rw[K5 hi hj,QbO,QbO]
  exact(h.own.put _ _).put _ _
 ·intro x hx
  have hx:=Ki hx;have:=h.row x hx;obtain⟨es,he⟩:=this.1;exact⟨⟨es,he.keeps hK (hB.block x.1 he.own.lt (fun e=>h.gne hx e.symm))⟩,this.2⟩
 ·exact((K4 R i j).map _).nodup_iff.2 h.apart
theorem j5.lt (h:j5 w g R n) {k:Nat} (hk:k=g∨k∈R.map (·.1)):k<w.heap.size:=by
 rcases hk with rfl | hk
 ·exact h.own.lt
 ·obtain⟨r,hr,rfl⟩:=List.mem_map.1 hk
  obtain⟨es,he⟩:=(h.row r hr).1;exact he.own.lt
end
def kQ (w:World) (base:Nat) (v:Value) (V:List Rat):Prop:=
 ∃es:List El,w.ownsRow base 69 3 v V.length (jA es)∧es.length=V.length∧kw w kx v ∧ ∀(i:Nat) (e:El) (q:Rat),es[i]? =some e→V[i]? =some q→Rt w (qk e) q
theorem kQ.keep {w w':World} {base:Nat} {v:Value} {V:List Rat} (h:kQ w base v V) (hK:kv w w') (hk:∀k,v.ownBlock=some k→w'.heap[k]? =w.heap[k]?):kQ w' base v V:=by
 obtain⟨es,h1,h2,h3,h4⟩:=h;exact⟨es,xt h1 (fun k _ hv=>hk k hv),h2,h3.same hk,fun i e q he hq=>(h4 i e q he hq).keeps hK⟩
theorem kQ.form {w:World} {base:Nat} {v:Value} {V:List Rat} (h:kQ w base v V):∃A c,v = .slice A V.length c∧V.length≤c∧c≤maxLen:=by
 obtain⟨es,h1,_⟩:=h;exact jX h1
theorem kQ.lt {w:World} {base:Nat} {v:Value} {V:List Rat} (h:kQ w base v V) (k:Nat) (hk:v.ownBlock=some k):base≤k∧k<w.heap.size:=by
 obtain⟨es,h1,_⟩:=h;exact h1.lt k hk
end Go.Proofs.YteagkgagdelklaaGreatDoor
namespace Go.Proofs.YteagkgagdelklaaGreatDoor
open Go.RowKit Go.Lib Go.Shelf
attribute [local go_sem] Oper.semAt_some
def yB (p:List Int) (A:Option Addr) (b0 off:Nat) (w:World):Prop:=b0<w.heap.size ∧ ∀j u,(je p)[j]? =some u→A=some ⟨b0,off,none⟩∧w.cell? ⟨b0,off+j,none⟩=some u
def JT (sb:Nat) (x:List Int) (v:Value) (w:World):Prop:=∃base,sb<base∧base≤w.heap.size∧w.ownsRow base 3 1 v x.length (je x)∧x≠[]
def yi (Bp b0 sb:Nat) (w w':World):Prop:=w.heap.size≤w'.heap.size∧w'.heap[sb]? =w.heap[sb]? ∧w'.heap[Bp]? =w.heap[Bp]? ∧w'.heap[b0]? =w.heap[b0]?
theorem yi.trans {Bp b0 sb:Nat} {a b c:World} (h:yi Bp b0 sb a b) (k:yi Bp b0 sb b c):yi Bp b0 sb a c:=
 ⟨Qap h.1 k.1,k.2.1.trans h.2.1,k.2.2.1.trans h.2.2.1,k.2.2.2.trans h.2.2.2⟩
theorem jk.grownQ {g:Nat} {w a b:World} {row:Option Nat} (h:jk g w a) (hg:a.grownBy b row) (hr:∀k,row=some k→w.heap.size≤k):jk g w b:=
 ⟨hg.os.trans h.os,hg.tape.trans h.tape,hg.output.trans h.output,Qap h.size hg.size,fun k hk hne=>(hg.block k (Qac hk h.size) (fun e=>by have:=hr k e.symm;omega)).trans (h.block k hk hne)⟩
theorem jk.allocQ {g:Nat} {w a:World} (h:jk g w a) (o:Obj):jk g w (a.alloc o):=
 ⟨h.os,h.tape,h.output,by simp;have:=h.size;omega,fun k hk hne=>(Below.heap_alloc a o k (Qac hk h.size)).trans (h.block k hk hne)⟩
theorem yB.same {p:List Int} {A:Option Addr} {b0 off:Nat} {w w':World} (h:yB p A b0 off w) (hs:w.heap.size≤w'.heap.size) (hb:w'.heap[b0]? =w.heap[b0]?):yB p A b0 off w':=
 ⟨Qac h.1 hs,fun j u hu=>⟨(h.2 j u hu).1,(World.cell?_of_block (a:=⟨b0,off+j,none⟩) hb).trans (h.2 j u hu).2⟩⟩
theorem Y9 (p:List Int) (A:Option Addr) (c Bp b0 off:Nat) (hp:y4 p) (hl:p.length≤256) (W:World) (hbox:W.cell? ⟨Bp,0,none⟩=some (.slice A p.length c)) (hBp:Bp<W.heap.size) (hR:yB p A b0 off W):
  U9 Tryz.prog 101 #[.pointer (some ⟨Bp,0,none⟩)] (qY p) JT (yi Bp b0) W:=by
 intro l J hJ hY h0;obtain⟨i0,hi0,hz0,hz1,hz2⟩:=info_parts zd;have HJ:=hid hJ;have HY:=hid hY;have HR:=hid hR;have HP:=hid hp;have hmk:=WW W p.length (by omega);clear hJ hY hR hp;refine callsIn_of_wp Tryz.func101 rfl trivial ?_ rfl;simp only[Tryz.ntmps101,List.size_toArray,QaR,QbA,Nat.reduceAdd,Nat.reduceSub,Array.replicate_succ,Array.replicate_zero,List.push_toArray,Qcq,Qbe,QbZ]
 gi_wp2
 gi_loopg [12] p.length (fun gh ix wr=>∃k:Nat,ix = .int .i64 k∧k+gh=p.length∧Hid (J (jZ p k).1 wr)∧Hid (ja wr W.heap.size 4 (yF (jZ p k).2))∧Hid (wr.cell? ⟨Bp,0,none⟩=some (.slice A p.length c))∧Hid (yB p A b0 off wr))
 case atStart=>
  have hB:=(Below.refl W.heap.size W).alloc (Nat.le_refl _) (.cells (yF (List.replicate p.length false)).toArray 4);exact⟨0,rfl,by omega,hid (HJ.out [] W _ h0 ((jk.refl _ _).allocQ _)),hid (ja.make _ _ _),hid ((hB.cell (p:=⟨Bp,0,none⟩) hBp).trans hbox),hid (HR.out.same hB.size (Below.heap_alloc _ _ _ HR.out.1))⟩
 case round=>
  obtain⟨k,rfl,hk,hJk,hO,hBx,hRd⟩:=hrel;generalize wr=wb at *;have hcl:=XC p k;clear hmk
  cases gk with
  | zero=>
   have hin:¬((k:Int)<(p.length:Int)):=by omega
   have hkk:k=p.length:=by omega
   subst hkk;clear hcl hO hBx hRd
   gi_wp2
   go_end0
   exact⟨⟨_,rfl⟩,hJk.out⟩
  | succ gh=>
   have hlt:k<p.length:=by omega
   have hlt':(k:Int)<(p.length:Int):=by omega
   have hck:=(hO.out.cell k).trans (YX (jZ p k).2 k (by omega));have hsb:=hO.out.lt
   cases hs:(jZ p k).2[k]?.getD true with
   | true=>
    have hs2:(jZ p k).2[k]?.getD false=true:=by
     rw[Qaa (by omega)] at hs ⊢;exact hs
    have hstep:jZ p (k+1)=jZ p k:=by rw[jZ,if_pos hs]
    rw[hs2] at hck;have HT:Hid (jZ p (k+1)=jZ p k):=hid hstep;clear hs hs2 hstep hcl
    gi_wp2
    gi_roundg gh
    case rel=>exact⟨k+1,by go_num,by omega,by rw[HT.out];exact hJk,by rw[HT.out];exact hO,hBx,hRd⟩
    case measure=>omega
   | false=>
    have hs2:(jZ p k).2[k]?.getD false=false:=by
     rw[Qaa (by omega)] at hs ⊢;exact hs
    obtain⟨post,hpost⟩:=Np p hlt hs;rw[hs2] at hck;have HS:=hid hs;clear hs hs2;have HF:Hid (kV p p.length (jZ p k).2 k=(kV p p.length (jZ p k).2 k)):=hid rfl;have HSl:=hid hcl;have hb0:=HR.out.1;generalize hS0:(jZ p k).2=S0 at *
    gi_wp2
    gi_loopg [5,6] p.length (fun gh2 cv iv wx=>∃(C:List Int) (s:List Bool) (i:Nat),iv = .int .i64 i∧i<p.length∧C.length+gh2=p.length∧Hid (kV p p.length S0 k=(C++(kV p gh2 s i).1,(kV p gh2 s i).2))∧Hid (Kl s≤gh2)∧s.length=p.length∧Hid (ja wx W.heap.size 4 (yF s))∧Hid (wx.ownsRow wb.heap.size 3 1 cv C.length (je C))∧Hid (jk W.heap.size wb wx))
    case atStart=>exact⟨[],S0,k,rfl,hlt,by simp,hid (by simp),hid (by have:=PE S0;omega),hcl,hO,hid (World.ownsRow_nil _ _ _ _),hid (jk.refl _ _)⟩
    case round=>
     obtain⟨C,s,i,rfl,hi,hC,hF,hU,hsl,hOs,hcv,hW⟩:=hrel;have hci:=(hOs.out.cell i).trans (YX s i (by omega));have hfr:=hOs.out.free i;have hwsz:=hW.out.size
     cases hs:s[i]?.getD true with
     | true=>
      have hs2:s[i]?.getD false=true:=by
       rw[Qaa (by omega)] at hs ⊢;exact hs
      rw[hs2] at hci;have hfs:=hF.out;rw[DX p gk s i hs,Qbg] at hfs;have hJx:=HJ.out _ _ _ hJk.out hW.out
      have hne:C≠[]:=by
       rintro rfl
       have:(kV p p.length S0 k).1=[]:=by rw[hfs]
       rw[show p.length=gh+k+1 by omega,kV,if_neg (by rw[HS.out];decide)] at this;cases this
      have hC1:(jZ p (k+1))=((jZ p k).1++[C],s):=by rw[jZ,hS0,if_neg (by rw[HS.out];decide),hfs]
      obtain⟨fn,tmps,assign,body,hy,hRd2⟩:=HY.out (jZ p k).1 C post u5 wr (by rw[hpost,hfs]) hJx (by omega) ⟨wb.heap.size,by omega,hwsz,hcv.out,hne⟩;have HC1:=hid hC1;have HBx2:=hid (((World.cell?_of_block (a:=⟨Bp,0,none⟩) (hW.out.block Bp (by omega) (by omega))).trans hBx.out));have HRd2:=hid (hRd.out.same hwsz (hW.out.block b0 (by omega) (by omega)));clear hs hs2 hfs hne hC1 hJx hpost hF hU hcv hBx hRd
      gi_wp2
      refine hRd2.mono ?_;rintro e W3 ⟨rfl,hJ3,hk3⟩;have HJ3:=hid hJ3;have HK3:=hid hk3;clear hJ3 hk3 hRd2
      gi_wp2
      gi_roundg gh
      case rel=>
       refine⟨k+1,by go_num,by omega,?_,?_,?_,?_⟩
       ·rw[HC1.out];exact HJ3
       ·rw[HC1.out];exact hid (HK3.out.2.1.trans hOs.out)
       ·exact hid ((World.cell?_of_block (a:=⟨Bp,0,none⟩) HK3.out.2.2.1).trans HBx2.out)
       ·exact hid (HRd2.out.same HK3.out.1 HK3.out.2.2.2)
      case measure=>omega
     | false=>
      have hs2:s[i]?.getD false=false:=by
       rw[Qaa (by omega)] at hs ⊢;exact hs
      have hs3:s[i]? =some false:=by
       rw[Qaa (by omega)] at hs ⊢;exact congrArg some hs
      rw[hs2] at hci
      cases gk with
      | zero=>have:=UQ s i hs3;have:=hU.out;omega
      | succ g2=>
       have hU2:Hid (Kl (s.set i true)≤g2):=hid (by have:=UQ s i hs3;have:=hU.out;omega);have hpi:=HP.out.1 (p[i]?.getD 0) (by rw[Qaa hi];exact Qay hi);obtain⟨hA0,hpc⟩:=HR.out.2 i _ (kz p i hi);have hF2:=hF.out;rw[kV,if_neg (by rw[hs];decide)] at hF2;obtain⟨_,hpcb⟩:=hRd.out.2 i _ (kz p i hi)
       have hfrom:∀w2:World,jk W.heap.size wb w2→w2.cell? ⟨Bp,0,none⟩=some (.slice A p.length c)∧w2.cell? ⟨b0,off+i,none⟩=some (.int .i64 (p[i]?.getD 0)):=fun w2 hb=>
        ⟨(World.cell?_of_block (a:=⟨Bp,0,none⟩) (hb.block Bp (by omega) (by omega))).trans hBx.out,(World.cell?_of_block (a:=⟨b0,off+i,none⟩) (hb.block b0 (by omega) (by omega))).trans hpcb⟩
       generalize p[i]?.getD 0=x at *;obtain⟨j,rfl⟩:=Qa2 hpi.1
       have hjp:j<p.length:=by omega
       have HF2:Hid (kV p p.length S0 k=((C++[(i:Int)])++(kV p g2 (s.set i true) j).1,(kV p g2 (s.set i true) j).2)):=hid (by rw[hF2];simp);subst hA0
       have hkc:C.length<256:=by omega
       have HFR:=hid hfrom;have HO2:=hid (show ja (wr.setCell ⟨W.heap.size,i,none⟩ (.bool true)) W.heap.size 4 (yF (s.set i true)) from by rw[←Vn];exact hOs.out.put i _);have HW2:=hid (hW.out.setCell (p:=⟨W.heap.size,i,none⟩) rfl (.bool true));have HC2:=hid (show (wr.setCell ⟨W.heap.size,i,none⟩ (.bool true)).ownsRow wb.heap.size 3 1 u5 C.length (je C) from xt hcv.out (fun k' _ e=>Below.heap_setCell _ _ _ _ (fun e2=>by have:=(hcv.out.lt k' e).1;dsimp only at e2;omega)))
       have hnew:∀(j':Nat) (u:Value),[Value.int .i64 (i:Int)][j']? =some u→((wr.setCell ⟨W.heap.size,i,none⟩ (.bool true)).alloc (.cells #[.int .i64 (i:Int)] 3)).cell? ((⟨wr.heap.size,0,none⟩:Addr).add j')=some u:=by
        have h:=cell_one_new (wr.setCell ⟨W.heap.size,i,none⟩ (.bool true)) (.int .i64 (i:Int)) 3
        have e:(wr.setCell ⟨W.heap.size,i,none⟩ (.bool true)).heap.size=wr.heap.size:=by simp
        rw[e] at h;exact h
       have HN:=hid hnew;clear hs hs2 hs3 hF hU hF2 hpc hpcb hfrom hpost hcv hOs hW hnew
       gi_wp2_with (gi_at_builtin;(refine wpListIn_append_own _ rfl _ _ 41 rfl wb.heap.size 3 i0 (.int .i64 0) 1 8 Tryz.underlying41 hi0 hz0 hz1 hz2 rfl (by decide) _ _ _ rfl (HC2.out.alloc _) ⟨wr.heap.size,0,none⟩ 1 1 [.int .i64 i] rfl rfl HN.out (fun x hx=>by simp at hx;subst hx;rfl) (by unfold maxLen;omega) (by omega) (by simp;omega) ?_;intro v' w1 hown' hgrow _;have hB1:=((HW2.out.allocQ (.cells #[.int .i64 (i:Int)] 3))).grownQ hgrow (fun k' e=>(HC2.out.lt k' e).1);obtain⟨hx1,hx2⟩:=HFR.out _ hB1;have HO3:=hid ((HO2.out.alloc (.cells #[.int .i64 (i:Int)] 3)).grown hgrow (fun e=>by have:=(HC2.out.lt _ e).1;omega));have HC3:=hid hown';have HB1:=hid hB1;clear hown' hgrow hB1))
       gi_roundg g2
       case rel=>
        exact⟨C++[(i:Int)],s.set i true,j,rfl,hjp,by simp;omega,HF2,hU2,by simpa using hsl,HO3,hid (by simpa [je] using HC3.out),HB1⟩
       case measure=>omega
