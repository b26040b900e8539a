/- Contract: the null space of a matrix of integers modulo a prime number. -/
import Derived.Test.YtneafcdfnhnpnaaGreatDoorZD26
set_option maxRecDepth 100000
set_option maxHeartbeats 4000000
namespace Go.Proofs.YtneafcdfnhnpnaaGreatDoor
open Go.RowKit
def yB (w:World) (base:Nat) (v:Value) (B:List (Nat×List Int)):Prop:=
 w.ownsRow base 50 1 v B.length (B.map fun r=>Value.slice (some ⟨r.1,0,none⟩) r.2.length r.2.length) ∧ ∀r∈B,base≤r.1∧ja w r.1 3 (je r.2)∧r.2.length≤1000000
theorem yB.below {w w':World} {base:Nat} {v:Value} {B:List (Nat×List Int)} (h:yB w base v B) (hb:Below w.heap.size w w'):yB w' base v B:=
 ⟨kB h.1 hb,fun r hr=>⟨(h.2 r hr).1,(h.2 r hr).2.1.below hb (h.2 r hr).2.1.lt,(h.2 r hr).2.2⟩⟩
theorem yB.snoc {w w':World} {base:Nat} {v v':Value} {B:List (Nat×List Int)} {gl:Nat} {L:List Int} (h:yB w base v B) (hg:w.grownBy w' v.ownBlock) (hown:w'.ownsRow base 50 1 v' (B.length+1) (B.map (fun r=>Value.slice (some ⟨r.1,0,none⟩) r.2.length r.2.length)++[.slice (some ⟨gl,0,none⟩) L.length L.length]))
  (hO:ja w gl 3 (je L)) (hgl:base≤gl) (hl:L.length≤1000000):yB w' base v' (B++[(gl,L)]):=by
 have hne:∀k cs,ja w k 3 cs→v.ownBlock≠some k:=by
  intro k cs hk e
  rcases h.1.2 with ⟨rfl,_⟩ | ⟨g,cap,cur,rfl,_,hg',_⟩
  ·simp[Value.ownBlock] at e
  ·simp[Value.ownBlock] at e
   subst e;unfold ja at hk;rw[hg'] at hk
   injection hk with hk
   injection hk with _ hk
   exact absurd hk (by decide)
 refine⟨by rw[List.map_append,List.length_append];exact hown,fun r hr=> ?_⟩;rcases List.mem_append.1 hr with hr | hr
 ·have:=h.2 r hr
  exact⟨this.1,this.2.1.grown hg (hne _ _ this.2.1),this.2.2⟩
 ·obtain rfl:=List.mem_singleton.1 hr
  exact⟨hgl,hO.grown hg (hne gl _ hO),hl⟩
theorem zE {w:World} {base:Nat} {e:TypeId} {v:Value} {n:Nat} {xs:List Value} (h:w.ownsRow base e 1 v n xs) (hn:n≤140737488355328):jB w v xs:=by
 obtain⟨A,c,rfl,hc,hm⟩:=j7 h
 have hl:xs.length=n:=by have:=h.1;omega
 refine⟨A,c,by rw[hl],by omega,by omega,fun h0=> ?_⟩;obtain⟨g,rfl,_,hlt,hcell⟩:=z6 h (j:=0) (by omega);exact⟨g,0,rfl,hlt,fun j hj=>by rw[Nat.zero_add];exact hcell j (by omega)⟩
def qH (w:World) (v:Value) (M:List (List Int)):Prop:=
 ∃vs:List Value,jB w v vs∧vs.length=M.length ∧ ∀(i:Nat) (r:List Int),M[i]? =some r → ∃u,vs[i]? =some u∧jB w u (je r)
theorem qH.below {w w':World} {v:Value} {M:List (List Int)} (h:qH w v M) (hb:Below w.heap.size w w'):qH w' v M:=by
 obtain⟨vs,h1,h2,h3⟩:=h;exact⟨vs,h1.below hb,h2,fun i r hr=>by obtain⟨u,hu,hs⟩:=h3 i r hr;exact⟨u,hu,hs.below hb⟩⟩
theorem yB.tblW {w:World} {base:Nat} {v:Value} {B:List (Nat×List Int)} (h:yB w base v B) (hl:B.length≤140737488355328):qH w v (B.map (·.2)):=by
 refine⟨_,zE h.1 hl,by simp,fun i r hr=> ?_⟩;rw[List.getElem?_map] at hr
 cases hb:B[i]? with
 | none=>rw[hb] at hr;cases hr
 | some x=>
  rw[hb] at hr;obtain rfl:=Option.some.inj hr;have:=h.2 x (List.mem_of_getElem? hb);exact⟨_,by rw[List.getElem?_map,hb];rfl,(this.2.1.sl _ (by rw[kx]) (by omega)).wide⟩
theorem Vw:(Tryz.prog.info? 50).map (fun i=>(i.zero,i.size,i.bytes))=some (some (.slice none 0 0),1,24):=by kernel_rfl
def Dq (M:List (List Int)) (p:Int) (w:World) (e:Ending) (w':World):Prop:=
 Below w.heap.size w w'∧((kN M=0∧yt p∧p≤999999999 ∧ ∃(R:List jR) (v:Value) (B:List (Nat×List Int)),e = .returned (.tuple #[v,.int .i64 0])∧R.map (·.2.2)=J8 p M∧yB w' w.heap.size v B∧B.length≤256 ∧
   B.map (·.2)=nsBasis (jC p) 0 1 ((M[0]?.map (·.length)).getD 0) (jH (jC p) ((M[0]?.map (·.length)).getD 0) R.length 0 ⟨kj List.reverse R R.length,[],[],false⟩) ((M[0]?.map (·.length)).getD 0)) ∨
  (kN M=0 ∧ ¬(yt p∧p≤999999999)∧e = .returned (.tuple #[jm,.int .i64 15]))∨(kN M≠0∧e = .returned (.tuple #[jm,.int .i64 (kN M)])))
theorem We {T:Type} (F:Fd T) (zero one:T) (n:Nat) (S:jz T) (k:Nat):(nsBasis F zero one n S k).length≤k:=by
 induction k with
 | zero=>simp[nsBasis]
 | succ k ih=>unfold nsBasis;rw[List.length_append];split <;> simp <;> omega
theorem C9 {n0:Nat} {M:List (List Int)} (h:yK n0 M=0):∀r∈M,r.length≤256∧r.length=n0∧yr r:=by
 induction M with
 | nil=>simp
 | cons a t ih=>
  unfold yK at h;split at h
  ·cases h
  ·split at h
   ·cases h
   ·split at h
    ·intro r hr
     rcases List.mem_cons.1 hr with rfl | hr
     ·rename_i h1 h2 h3;exact⟨by omega,by simpa using h2,h3⟩
     ·exact ih h r hr
    ·cases h
theorem Y2 {M:List (List Int)} (h:kN M=0):M.length≤256∧((M[0]?.map (·.length)).getD 0)≤256 ∧ ∀r∈M,r.length=(M[0]?.map (·.length)).getD 0∧yr r:=by
 unfold kN at h;split at h
 ·cases h
 ·have hr:=C9 h
  refine⟨by omega,?_,fun r h=>⟨(hr r h).2.1,(hr r h).2.2⟩⟩
  cases M with
  | nil=>simp
  | cons a t=>have:=hr a (by simp);simpa using this.1
theorem M6 (v:Value) (M:List (List Int)) (p:Int) (w:World) (hv:yW w v M):
  Calls Tryz.prog 87 #[v,.int .i64 p] w (Dq M p w):=by
 have RM:=Lib.hid (BV v M p w hv);clear hv;obtain⟨i0,hi0,hz0,hz1,hz2⟩:=info_parts Vw;go_enter Tryz.func87,Tryz.ntmps87
 go_wp2_with fail
 refine RM.out.mono ?_;clear RM;rintro e w1 ⟨hB1,⟨hM,hp,hp2,g,R,rfl,hg,hnew,hmx,hvals⟩ | ⟨hM,hp,rfl⟩ | ⟨hM,rfl⟩⟩
 ·have HMO:=Lib.hid (Y2 hM)
  have HRl:Hid (R.length=M.length):=Lib.hid (by have:=congrArg List.length hvals;simpa [J8] using this);have hn1:=(Y2 hM).2.1;have hm1:=(Y2 hM).1;generalize hne:(M[0]?.map (·.length)).getD 0=n at *;have HN:=Lib.hid hne
  have NS:Hid (Calls Tryz.prog 164 #[.iface 197 (.agg #[.int .i64 p]),.slice (some ⟨g,0,none⟩) M.length M.length] w1 (Wf p n g R w1)):=Lib.hid (by
   have hI:xP p R:=by
    intro r hr x hx
    have:r.2.2∈J8 p M:=by rw[←hvals];exact List.mem_map_of_mem hr
    obtain⟨q,_,hq⟩:=List.mem_map.1 this;rw[←hq] at hx;obtain⟨y,_,rfl⟩:=List.mem_map.1 hx;have:=hp.1;exact⟨Int.emod_nonneg _ (by omega),Int.emod_lt_of_pos _ (by omega)⟩
   have h:=Ao p g M.length n R w1 hmx (by rw[HRl.out];exact Nat.le_refl _) (by omega) (by omega) (PF.of_prime hp hp2) hI (fun e=>by
    have:M=[]:=List.length_eq_zero_iff.1 (by rw[←HRl.out,e];rfl)
    rw[←hne,this];rfl)
   rw[HRl.out] at h
   exact h)
  have HP:=Lib.hid (And.intro hp hp2);have HM:=Lib.hid hM;have HB1:=Lib.hid hB1;have HV:=Lib.hid hvals
  have HNew:Hid (∀k∈g::R.map (·.1),w.heap.size≤k):=Lib.hid (by
   intro k hk;rcases List.mem_cons.1 hk with rfl | hk
   ·exact hg
   ·obtain⟨r,hr,rfl⟩:=List.mem_map.1 hk
    exact hnew r hr)
  clear hM hB1 hvals hnew hg hmx hp hp2 hne
  go_wp2_with fail
  refine NS.out.mono ?_;clear NS;rintro e w2 ⟨bv,B,rfl,hBe,hT,hbs⟩;have HB2:Hid (Below w.heap.size w w2):=Lib.hid (HB1.out.trans ⟨hbs.os,hbs.tape,hbs.output,hbs.size,fun k hk=>hbs.block k (Nat.lt_of_lt_of_le hk HB1.out.size) (fun hc=>by have:=HNew.out k hc;omega)⟩);have HBe:=Lib.hid hBe
  have hBl:B.length≤n:=by
   have h1:=congrArg List.length hBe;rw[List.length_map] at h1;rw[h1];exact We ..
  have HT:=Lib.hid hT;obtain⟨A1,k1,rfl,hk1,hk2⟩:=j7 hT.1;clear hBe hT hbs HNew HB1
  go_wp2_with fail
  go_loopg [8,29] B.length (fun gh bs i wr=>∃(k:Nat) (C:List (Nat×List Int)),i = .int .i64 k∧k+gh=B.length∧Hid (C.map (·.2)=(B.map (·.2)).take k)∧Hid (yB wr w2.heap.size bs C)∧Hid (Below w2.heap.size w2 wr))
  case atStart=>exact⟨0,[],rfl,by omega,Lib.hid rfl,Lib.hid ⟨World.ownsRow_nil _ _ _ _,by simp⟩,Lib.hid (Below.refl _ _)⟩
  case round=>
   obtain⟨k,C,rfl,hk,hC,hO,hW⟩:=hrel
   have hCl:C.length=k:=by
    have h1:=congrArg List.length hC.out;simp at h1;omega
   cases gk with
   | zero=>
    have hin:¬((k:Int)<(B.length:Int)):=by omega
    have hkB:k=B.length:=by omega
    have HCe:Hid (C.map (·.2)=B.map (·.2)):=Lib.hid (by rw[hC.out,List.take_of_length_le (by rw[List.length_map];omega)]);have HT2:Hid (yB wr w.heap.size u8 C):=Lib.hid ⟨zd hO.out.1 HB2.out.size,fun r hr=>⟨Nat.le_trans HB2.out.size (hO.out.2 r hr).1,(hO.out.2 r hr).2⟩⟩;have HBt:=Lib.hid (HB2.out.trans (hW.out.mono HB2.out.size));clear hkB hC hO hW
    go_wp2
    go_ret2;exact⟨HBt.out,.inl ⟨HM.out,HP.out.1,HP.out.2,R,_,C,rfl,HV.out,HT2.out,by omega,by rw[HCe.out,HBe.out,HN.out]⟩⟩
   | succ gh=>
    have hlt:k<B.length:=by omega
    have hlt':(k:Int)<(B.length:Int):=by omega
    obtain⟨q,hq⟩:∃q,B[k]? =some q:=⟨B[k],List.getElem?_eq_getElem hlt⟩
    obtain⟨gB,hA,_,hgBl,hcell⟩:=z6 HT.out.1 (j:=k) hlt;have hck:wr.cell? ⟨gB,k,none⟩=some (.slice (some ⟨q.1,0,none⟩) n n):=(hW.out.cell (p:=⟨gB,k,none⟩) hgBl).trans ((hcell k hlt).trans (by rw[List.getElem?_map,hq];rfl));obtain⟨_,hqo,hql⟩:=HT.out.2 q (List.mem_of_getElem? hq);have HqO:=Lib.hid (hqo.below hW.out hqo.lt);have Hq:Hid ((B.map (·.2)).take (k+1)=(B.map (·.2)).take k++[q.2]):=Lib.hid (by rw[List.take_add_one,List.getElem?_map,hq];rfl);have Hk:=Lib.hid hk;have hs2:w2.heap.size≤wr.heap.size:=hW.out.size;subst hA;clear hcell hqo hq hk;obtain⟨bk,L⟩:=q;dsimp only at hck hql HqO Hq;have hmk:=Jw wr n (by omega)
    have HO0:Hid (ja (wr.alloc (.cells (je (List.replicate n 0)).toArray 3)) wr.heap.size 3 (je (xi L 0))):=Lib.hid (by
     rw[WG,hql];exact ja.make _ _ _)
    have Hql:=Lib.hid hql;clear hql
    go_wp2_with fail
    obtain⟨wb,rfl⟩:∃wb,wb=wr:=⟨_,rfl⟩
    go_loopg [38] n (fun gh2 ix wx=>∃j:Nat,ix = .int .i64 j∧j+gh2=n∧Hid (ja wx wb.heap.size 3 (je (xi L j)))∧Hid (Below wb.heap.size wb wx))
    case atStart=>exact⟨0,rfl,by omega,HO0,Lib.hid ((Below.refl _ _).alloc (Nat.le_refl _) _)⟩
    case round=>
     clear HO0 hmk hck;obtain⟨j,rfl,hj,hOx,hBx⟩:=hrel
     cases gk with
     | zero=>
      have hin2:¬((j:Int)<(n:Int)):=by omega
      have HL2:Hid (ja wr wb.heap.size 3 (je L)):=Lib.hid (by
       have:j=L.length:=by have:=Hql.out;omega
       have h:=hOx.out
       rwa [this,WC] at h)
      have HO2:=Lib.hid (hO.out.below hBx.out);obtain⟨A9,k9,hbv,_,_⟩:=j7 HO2.out.1;have hs3:=hBx.out.size;have Hj:=Lib.hid hj
      have hk7:C.length+1≤1000:=by have:=Hk.out;omega
      subst hbv;clear hO hOx hj
      go_wp2_with (at_builtin;(refine wpList_append_own _ rfl _ _ 57 rfl w2.heap.size 50 i0 (.slice none 0 0) 1 24 Tryz.underlying57 hi0 hz0 hz1 hz2 rfl (by decide) _ _ _ rfl (HO2.out.1.alloc _) ⟨wr.heap.size,0,none⟩ 1 1 [.slice (some ⟨wb.heap.size,0,none⟩) n n] rfl rfl (cell_one_new _ _ _) (fun x hx=>by simp at hx;subst hx;rfl) (by unfold maxLen;omega) (by omega) (by simp;omega) ?_;intro v7 w7 hown7 hgrow7 _))
      have hal:Below wr.heap.size wr (wr.alloc (.cells #[.slice (some ⟨wb.heap.size,0,none⟩) n n] 50)):=(Below.refl _ _).alloc (Nat.le_refl _) _;have HT7:=Lib.hid ((HO2.out.below hal).snoc (L:=L) hgrow7 (by rw[Hql.out];exact hown7) (HL2.out.below hal HL2.out.lt) hs2 (by rw[Hql.out];omega));have HW7:Hid (Below w2.heap.size w2 w7):=Lib.hid (Below.grown (((hW.out.trans (hBx.out.mono hs2))).alloc (by omega) _) hgrow7 (by simp;omega) (fun j hj=>(HO2.out.1.lt j hj).1))
      go_roundg gh
      case rel=>exact⟨k+1,C++[(wb.heap.size,L)],by go_num,by have:=Hk.out;omega,Lib.hid (by rw[List.map_append,hC.out,Hq.out];rfl),HT7,HW7⟩
      case measure=>omega
     | succ gh2=>
      have hjl:j<n:=by omega
      have hjl':(j:Int)<(n:Int):=by omega
      have hjL:j<L.length:=by have:=Hql.out;omega
      have c1:wr.cell? ⟨bk,j,none⟩=some (.int .i64 (L[j]?.getD 0)):=(hBx.out.cell (p:=⟨bk,j,none⟩) HqO.out.lt).trans ((HqO.out.cell j).trans (kA L j hjL));have c2:=(hOx.out.cell j).trans (kA _ j (by rw[WE L j (by omega)];omega));have f2:=hOx.out.free j;have hbl:=HqO.out.lt;have hs3:=hBx.out.size;have Hs:=Lib.hid (WF L j hjL);have HO3:Hid (∀x,L[j]?.getD 0=x→ja (wr.setCell ⟨wb.heap.size,j,none⟩ (.int .i64 x)) wb.heap.size 3 (je (xi L (j+1)))):=Lib.hid (fun x hx=>by rw[←Hs.out,hx,←xK];exact hOx.out.put _ _);have Hj:=Lib.hid hj;clear hOx hj Hs;generalize hx:L[j]?.getD 0=x at *;have HO4:=Lib.hid (HO3.out x rfl);have HB4:=Lib.hid (hBx.out.setCell (p:=⟨wb.heap.size,j,none⟩) (Nat.le_refl _) (.int .i64 x));clear HO3 hx;generalize (xi L j)[j]?.getD 0=y at *
      go_wp2
      go_roundg gh2
      case rel=>exact⟨j+1,by go_num,by have:=Hj.out;omega,HO4,HB4⟩
      case measure=>omega
 ·have HM:=Lib.hid hM
  have HP:=Lib.hid hp;have HB1:=Lib.hid hB1;clear hM hp hB1
  go_wp2
  go_ret2;exact⟨HB1.out,.inr (.inl ⟨HM.out,HP.out,rfl⟩)⟩
 ·have HM:=Lib.hid hM
  have HB1:=Lib.hid hB1
  have hb:(kN M != 0)=true:=by simpa using hM
  clear hM hB1
  obtain⟨E,hE⟩:∃E,E=kN M:=⟨_,rfl⟩
  have HE:=Lib.hid hE;rw[←hE] at hb ⊢;clear hE
  go_wp2
  go_ret2;exact⟨HB1.out,.inr (.inr ⟨HM.out,by rw[HE.out];rfl⟩)⟩
def Us (w:World) (t:TypeId) (g K cap:Nat) (cs:List Value):Prop:=cs.length=K∧K≤cap∧cap≤maxLen ∧ ∃cur:Array Value,w.heap[g]? =some (.cells cur t (0,0))∧cur.toList.take K=cs
section
variable {w w':World} {t s:TypeId} {g h K cap J cap2:Nat} {cs ds:List Value}
theorem Us.of_owns {base:Nat} {v:Value} (h:w.ownsRow base t 1 v K cs) (hK:0<K):∃g cap,v = .slice (some ⟨g,0,none⟩) K cap∧base≤g∧Us w t g K cap cs:=by
 obtain⟨h1,⟨rfl,h2⟩ | ⟨g,cap,cur,rfl,h2,h3,h4,h5,h6,h7⟩⟩:=h
 ·omega
 ·exact⟨g,cap,rfl,h2,by omega,h4,h5,cur,h3,by rw[Nat.mul_one] at h7;exact h7⟩
theorem Us.lt (h:Us w t g K cap cs):g<w.heap.size:=by
 obtain⟨_,_,_,cur,h1,_⟩:=h;exact(Array.getElem?_eq_some_iff.1 h1).1
theorem Us.cell (h:Us w t g K cap cs) {i:Nat} (hi:i<K):w.cell? ⟨g,i,none⟩=cs[i]? :=by
 obtain⟨_,_,_,cur,h1,rfl⟩:=h;rw[cell_of_row w g i cur t (0,0) h1,List.getElem?_take_of_lt hi];simp
theorem Us.free (h:Us w t g K cap cs) (i:Nat):w.frozen? ⟨g,i,none⟩=false:=by
 obtain⟨_,_,_,cur,h1,_⟩:=h;simp[World.frozen?,h1]
theorem Us.put (h:Us w t g K cap cs) (i:Nat) (u:Value):Us (w.setCell ⟨g,i,none⟩ u) t g K cap (cs.set i u):=by
 obtain⟨h0,h2,h3,cur,h1,rfl⟩:=h;refine⟨by simpa using h0,h2,h3,cur.setIfInBounds i u,?_,?_⟩
 ·simp[World.setCell,Array.getElem?_modify,h1]
 ·simp[List.take_set]
theorem Us.keep (h:Us w t g K cap cs) (hk:w'.heap[g]? =w.heap[g]?):Us w' t g K cap cs:=by
 obtain⟨h0,h2,h3,cur,h1,h4⟩:=h;exact⟨h0,h2,h3,cur,hk.trans h1,h4⟩
theorem Us.other (h:Us w t g K cap cs) {p:Addr} (hp:g≠p.block) (u:Value):Us (w.setCell p u) t g K cap cs:=h.keep (Below.heap_setCell w p u g hp)
theorem Us.apart (a:Us w s g K cap cs) (b:Us w t h J cap2 ds) (hst:s≠t):g≠h:=by
 intro e;subst e;obtain⟨_,_,_,cur,h1,_⟩:=a;obtain⟨_,_,_,cur2,h2,_⟩:=b;rw[h1] at h2
 injection h2 with h2
 injection h2 with _ h2
 exact hst h2
end
section
variable {w w':World} {g cg n:Nat} {R:List jR}
end
section
variable {w w':World} {base n:Nat} {v:Value} {vs:List Value} {Ls:List (List Int)}
end
end Go.Proofs.YtneafcdfnhnpnaaGreatDoor
namespace Go.Proofs.YtneafcdfnhnpnaaGreatDoor
open Go.RowKit Go.Lib
theorem YB {α:Type} [DecidableEq α] {p q:List α} {k:Nat} (hk:k<p.length) (hl:p.length=q.length) (h:(decide (p.drop k=q.drop k))=decide (p=q)) (he:p[k]? =q[k]?):decide (p.drop (k+1)=q.drop (k+1))=decide (p=q):=by
 have hq:k<q.length:=by omega
 rw[List.getElem?_eq_getElem hk,List.getElem?_eq_getElem hq] at he;have he:=Option.some.inj he;have e1:p.drop k=p[k]::p.drop (k+1):=List.drop_eq_getElem_cons hk;have e2:q.drop k=q[k]::q.drop (k+1):=List.drop_eq_getElem_cons hq;rw[←h,e1,e2,he];exact decide_eq_decide.mpr ⟨fun h=>by rw[h],fun h=>(List.cons.inj h).2⟩
theorem YA {α:Type} [DecidableEq α] {p q:List α} {k:Nat} (he:p[k]? ≠q[k]?):decide (p=q)=false:=by
 simp only[decide_eq_false_iff_not];intro h;subst h;exact he rfl
theorem CQ (v u:Value) (P Q:List (List Int)) (w:World) (hv:qH w v P) (hu:qH w u Q):
  Calls Tryz.prog 54 #[v,u] w fun e w'=>e = .returned (.bool (decide (P=Q)))∧Below w.heap.size w w':=by
 obtain⟨vs,hvs,hvl,hvr⟩:=hv;obtain⟨us,hus,hul,hur⟩:=hu;obtain⟨A,c,rfl,hc1,hc2⟩:=hvs.form;obtain⟨B,d,rfl,gc1,gc2⟩:=hus.form;rw[hvl] at hvs hc1 hc2;rw[hul] at hus gc1 gc2
 obtain⟨r,hr⟩:∃r,decide (P=Q)=r:=⟨_,rfl⟩
 have HR:=hid hr;rw[hr,hvl,hul];by_cases hl:P.length=Q.length
 ·have hb:((P.length:Int) != (Q.length:Int))=false:=by rw[hl];simp
  have HL:=hid hl;have HVR:=hid hvr;have HUR:=hid hur;clear hr hl hvr hur;go_enter Tryz.func54,Tryz.ntmps54
  go_wp2_with fail
  go_loopg [5] P.length (fun g i wr=>∃(k:Nat),k+g=P.length∧i = .int .i64 k∧Hid (decide (P.drop k=Q.drop k)=decide (P=Q))∧Below w.heap.size w wr)
  case atStart=>exact⟨0,by omega,rfl,hid rfl,Below.refl _ _⟩
  case round=>
   obtain⟨k,hk,rfl,hD,hB⟩:=hrel
   cases gk with
   | zero=>
    have hin:¬((k:Int)<(P.length:Int)):=by omega
    have HT:Hid (r=true):=hid (by
     rw[←HR.out,←hD.out,List.drop_eq_nil_of_le (by omega),List.drop_eq_nil_of_le (by have:=HL.out;omega)];rfl)
    clear hk
    go_wp2
    go_ret;exact⟨by rw[HT.out];rfl,hB⟩
   | succ g=>
    have hlt:k<P.length:=by omega
    have hlq:k<Q.length:=by have:=HL.out;omega
    obtain⟨v1,hv1,hs1⟩:=HVR.out k _ (List.getElem?_eq_getElem hlt);obtain⟨u1,hu1,ht1⟩:=HUR.out k _ (List.getElem?_eq_getElem hlq);obtain⟨b1,off1,rfl,hbb1,hcell1⟩:=hvs.at_ (k:=k) (by rw[hvl];omega);obtain⟨b2,off2,rfl,hbb2,hcell2⟩:=hus.at_ (k:=k) (by rw[hul];omega);have hck1:=(hB.cell (p:=⟨b1,off1+k,none⟩) hbb1).trans ((hcell1 k (by rw[hvl];omega)).trans hv1);have hck2:=(hB.cell (p:=⟨b2,off2+k,none⟩) hbb2).trans ((hcell2 k (by rw[hul];omega)).trans hu1);have Hstep:=hid (fun he=>YB hlt HL.out hD.out he);have Hdiff:=hid (fun he=>YA (p:=P) (q:=Q) (k:=k) he);rw[List.getElem?_eq_getElem hlt,List.getElem?_eq_getElem hlq] at Hstep Hdiff;have Hk:=hid hk;have hbl1:=Nat.lt_of_lt_of_le hbb1 hB.size;have hbl2:=Nat.lt_of_lt_of_le hbb2 hB.size;have SI:=hid (fun (W:World) (hb:Below wr.heap.size wr W)=>Gb v1 u1 P[k] Q[k] W ((hs1.below hB).below hb) ((ht1.below hB).below hb))
    have KS:Hid (∀z,Below wr.heap.size wr z→z.cell? ⟨b1,off1+k,none⟩=some v1∧z.cell? ⟨b2,off2+k,none⟩=some u1∧Below wr.heap.size wr z):=hid (fun z hb=>
     ⟨(hb.cell (p:=⟨b1,off1+k,none⟩) hbl1).trans hck1,(hb.cell (p:=⟨b2,off2+k,none⟩) hbl2).trans hck2,hb⟩)
    have KT:=hid (fun (x x':World) (hb:Below x.heap.size x x') (h5:Below wr.heap.size wr x)=>KS.out x' (h5.trans (hb.mono h5.size)));have HB:=hid hB;clear hcell1 hcell2 hvs hus hk hs1 ht1 hv1 hu1 hB hD;generalize P[k]=x at *;generalize Q[k]=y at *
    obtain⟨bb,hbb⟩:∃bb,decide (x=y)=bb:=⟨_,rfl⟩
    rw[hbb] at SI
    cases bb with
    | true=>
     have Hs:=hid (Hstep.out (by rw[of_decide_eq_true hbb]));clear hbb Hstep Hdiff
     go_wp2
     go_region_held3 (fun z=>z.cell? ⟨b1,off1+k,none⟩=some v1∧z.cell? ⟨b2,off2+k,none⟩=some u1∧Below wr.heap.size wr z)
      (first | exact KS.out _ (Below.refl _ _).drew | exact KT.out _ _ (by assumption) (by assumption))
      (first | (go_at_call 93;go_split_ands;refine(SI.out _ (by assumption)).mono ?_;rintro e4 w4 ⟨rfl,hB4⟩))
     have hB':Below w.heap.size w w4:=by go_split_ands;exact HB.out.trans (by rename_i h;exact h.mono HB.out.size)
     go_wp2
     go_roundg g
     case rel=>exact⟨k+1,by have:=Hk.out;omega,by go_num,Hs,hB'⟩
     case measure=>omega
    | false=>
     have Hs:=hid (Hdiff.out (fun h=>of_decide_eq_false hbb (Option.some.inj h)));clear hbb Hstep Hdiff;have HF:Hid (r=false):=hid (by rw[←HR.out];exact Hs.out)
     go_wp2
     go_region_held3 (fun z=>z.cell? ⟨b1,off1+k,none⟩=some v1∧z.cell? ⟨b2,off2+k,none⟩=some u1∧Below wr.heap.size wr z)
      (first | exact KS.out _ (Below.refl _ _).drew | exact KT.out _ _ (by assumption) (by assumption))
      (first | (go_at_call 93;go_split_ands;refine(SI.out _ (by assumption)).mono ?_;rintro e4 w4 ⟨rfl,hB4⟩))
     have hB':Below w.heap.size w w4:=by go_split_ands;exact HB.out.trans (by rename_i h;exact h.mono HB.out.size)
     go_wp2
     go_ret;exact⟨by rw[HF.out];rfl,hB'⟩
 ·have hb:((P.length:Int) != (Q.length:Int))=true:=by simpa using (by omega:¬(P.length:Int)=Q.length)
  have hne:P≠Q:=by intro h;subst h;exact hl rfl
  have HF:Hid (r=false):=hid (by rw[←hr];simpa using hne);clear hr hne hl;go_enter Tryz.func54,Tryz.ntmps54
  go_wp2
  go_ret;exact⟨by rw[HF.out];rfl,Below.refl _ _⟩
end Go.Proofs.YtneafcdfnhnpnaaGreatDoor
namespace Go.Proofs.YtneafcdfnhnpnaaGreatDoor
open Go.RowKit Go.Lib Go.Shelf
attribute [local go_sem] Oper.semAt_some
def TI (w:World) (base:Nat) (v:Value) (M:List (List Int)):Prop:=
 ∃vs:List Value,w.ownsRow base 50 1 v M.length vs∧vs.length=M.length ∧ ∀(i:Nat) (x:List Int),M[i]? =some x → ∃u bx,vs[i]? =some u∧base≤bx∧w.ownsRow bx 3 1 u x.length (je x)
theorem TI.keep {w w':World} {base:Nat} {v:Value} {M:List (List Int)} (h:TI w base v M) (hk:∀k,base≤k→k<w.heap.size→w'.heap[k]? =w.heap[k]?):TI w' base v M:=by
 obtain⟨vs,h1,h2,h3⟩:=h;refine⟨vs,xa h1 (fun k hl e=>hk k (h1.lt k e).1 hl),h2,fun i x hx=> ?_⟩;obtain⟨u,bx,hu,hb,hr⟩:=h3 i x hx;exact⟨u,bx,hu,hb,xa hr (fun k hl e=>hk k (Nat.le_trans hb (hr.lt k e).1) hl)⟩
theorem TI.form {w:World} {base:Nat} {v:Value} {M:List (List Int)} (h:TI w base v M):∃A c,v = .slice A M.length c∧M.length≤c∧c≤maxLen:=by
 obtain⟨vs,h1,_⟩:=h;exact j7 h1
theorem TI.snoc {w w':World} {base:Nat} {v v' u:Value} {M:List (List Int)} {x:List Int} {vs:List Value} (h1:w.ownsRow base 50 1 v M.length vs) (h2:vs.length=M.length)
  (h3:∀(i:Nat) (x:List Int),M[i]? =some x → ∃u bx,vs[i]? =some u∧base≤bx∧w.ownsRow bx 3 1 u x.length (je x)) {bx:Nat} (hb:base≤bx) (hu:w.ownsRow bx 3 1 u x.length (je x))
  (hown:w'.ownsRow base 50 1 v' (M.length+1) (vs++[u])) (hg:w.grownBy w' v.ownBlock):TI w' base v' (M++[x]):=by
 have hK:∀(bx:Nat) (u:Value) (x:List Int),w.ownsRow bx 3 1 u x.length (je x)→w'.ownsRow bx 3 1 u x.length (je x):=fun bx u x hr=>
  xa hr (fun k hl e=>hg.block k hl (fun e'=>Qa hr h1 (by decide) k e e'.symm))
 refine⟨vs++[u],by rw[List.length_append];exact hown,by simp[h2],fun i y hy=> ?_⟩;rcases Nat.lt_or_ge i M.length with hi | hi
 ·rw[List.getElem?_append_left hi] at hy
  obtain⟨u',b',hu',hb',hr'⟩:=h3 i y hy;exact⟨u',b',by rw[List.getElem?_append_left (by omega)];exact hu',hb',hK _ _ _ hr'⟩
 ·rw[List.getElem?_append_right hi] at hy
  have h0:i-M.length=0:=by
   rcases Nat.eq_zero_or_pos (i-M.length) with h0 | h0
   ·exact h0
   ·rw[List.getElem?_eq_none (by simp;omega)] at hy;cases hy
  rw[h0] at hy;simp at hy;subst hy;exact⟨u,bx,by rw[List.getElem?_append_right (by omega),h2,h0];rfl,hb,hK _ _ _ hu⟩
theorem Sq (p:List Int):(qI p).length≤p.length:=by
 have h:∀k,(jW p k).1.length≤k:=by
  intro k
  induction k with
  | zero=>simp[jW]
  | succ k ih=>rw[jW];split
               ·omega
               ·simp;omega
 exact h _
def Ha (M:List (List Int)) (w:World) (e:Ending) (w':World):Prop:=∃v base,e = .returned v∧w.heap.size≤base∧TI w' base v M∧Below w.heap.size w w'
theorem MP (p:List Int) (A:Option Addr) (c Bp b0 off:Nat) (w:World) (hp:yw p) (hl:p.length≤256) (hbox:ja w Bp 50 [.slice A p.length c]) (hR:x6 p A b0 off w):
  Calls Tryz.prog 192 #[.slice none 0 0,.func (.func 191) #[] #[.pointer (some ⟨Bp,0,none⟩)]] w (Ha (qI p) w):=by
 obtain⟨i0,hi0,hz0,hz1,hz2⟩:=info_parts Vw;have HP:=hid hp;have HB:=hid hbox;have HR:=hid hR;clear hp hbox hR;refine(callsIn_wide (n:=4)).1 ?_;refine callsIn_of_wp_marks Tryz.func192 rfl trivial ?_ rfl;simp only[Tryz.ntmps192,List.size_toArray,List.length_cons,List.length_nil,Nat.reduceAdd,Nat.reduceSub,Array.replicate_succ,Array.replicate_zero,List.push_toArray,List.append_toArray,List.nil_append,List.cons_append]
 gi_wp2
 have hBl:=HB.out.lt;have hbl:=HR.out.1;have hal:Below w.heap.size w (w.alloc (.cells #[.slice none 0 0] 57)):=(Below.refl _ w).alloc (Nat.le_refl _) _;have hO0:=ja.make w 57 [.slice none 0 0]
 have hsz:(w.alloc (.cells #[.slice none 0 0] 57)).heap.size=w.heap.size+1:=by simp
 obtain⟨w3,hw3⟩:∃w3,w3=w.alloc (.cells #[.slice none 0 0] 57):=⟨_,rfl⟩
 change ja (w.alloc (.cells #[.slice none 0 0] 57)) _ _ _ at hO0;rw[←hw3] at hal hO0 hsz ⊢;clear hw3
 refine Zq (gf:=191) (lb:= #[.pointer (some ⟨Bp,0,none⟩)]) (xs:=qI p) (Pr:=Jj) (Kp:=xR Bp b0) rfl (enters_of Tryz.func191 (by kernel_rfl) rfl)
  (fun W hW hs=>Yp p A c Bp b0 off HP.out hl W (((hW.cell (p:=⟨Bp,0,none⟩) (by simp;omega)).trans (hal.cell (p:=⟨Bp,0,none⟩) hBl)).trans (HB.out.cell 0)) (by omega) ((HR.out.same hal.size (hal.block b0 hbl)).same hW.size (hW.block b0 (by omega)))) rfl
  (fun pre A'=>(∃v,ja A' w.heap.size 57 [v]∧TI A' (w3.heap.size+3) v pre)∧Below w.heap.size w A')
  (fun pre A' A2 h hb=>⟨by obtain⟨v,h1,h2⟩:=h.1;exact⟨v,h1.but hb (by omega),h2.keep fun k h3 h4=>hb.block k h4 (by omega)⟩,h.2.trans (hb.toBelow (by omega) h.2.size)⟩)
  (fun pre A' l o h hl _=>⟨by obtain⟨v,h1,h2⟩:=h.1;exact⟨v,h1.putObjQ (by omega) o,h2.keep fun k h3 h4=>World.putObj_heap_other (by omega)⟩,Below.putObjQ h.2 (by omega) o⟩)
  (fun A' B C h k=>h.trans k) (fun A' o hlt=>xR.putObjQ _ _ _ _ A' o (by omega) (by omega) (by omega))
  (fun x v A' o hlt h=>h.putObjQ (by omega) o)
  (fun o1 o2=>⟨⟨_,(hO0.alloc _).alloc _,[],World.ownsRow_nil _ _ _ _,rfl,fun i x h=>by simp at h⟩,(hal.alloc (by omega) _).alloc (by simp;omega) _⟩)
  (fun v=> { tmps:= #[.slice none 0 0,.func (.func 191) #[] #[.pointer (some ⟨Bp,0,none⟩)],.pointer (some ⟨w.heap.size,0,none⟩),undef,.slice none 0 0,v,.func (.func 191) #[] #[.pointer (some ⟨Bp,0,none⟩)],v,undef,undef,undef,undef,undef],defers:=[] })
  ?assign ?body ?done
 case assign=>
  intro l v W K hK
  gi_wp2
  exact hK
 case body=>
  rintro l pre x post u A' hx ⟨⟨v,hO,vs,hv1,hv2,hv3⟩,hB⟩ hlt ⟨base,hb1,hb2,hrow,hne⟩;have hcl:A'.cell? ⟨w.heap.size,0,none⟩=some v:=hO.cell 0;have hfr:=hO.free 0
  have hpl:pre.length<256:=by
   have h1:=Sq p;rw[hx] at h1;simp at h1;omega
  obtain⟨A2,c2,hu,_,_⟩:=j7 hrow;obtain⟨A5,c5,hv,_,_⟩:=j7 hv1;have HO:=hid hO;have HBw:=hid hB;have HV1:=hid hv1;have HV3:=hid hv3;have HRow:=hid hrow;have H0:=hid (kB hv1 ((Below.refl A'.heap.size A').alloc (Nat.le_refl _) (.cells #[u] 50)));subst hu hv;clear hO hB hv1 hv3 hrow
  gi_wp2_with (gi_at_builtin;(refine wpListIn_append_own _ rfl _ _ 57 rfl (w3.heap.size+3) 50 i0 (.slice none 0 0) 1 24 Tryz.underlying57 hi0 hz0 hz1 hz2 rfl (by decide) _ _ _ rfl H0.out ⟨A'.heap.size,0,none⟩ 1 1 [.slice A2 x.length c2] rfl rfl (cell_one_new _ _ _) (fun x hx=>by simp at hx;subst hx;rfl) (by unfold maxLen;omega) (by omega) (by simp;omega) ?_;intro v' w1 hown' hgrow _;obtain⟨A7,c7,rfl,_,_⟩:=j7 hown';have hg:(A'.alloc (.cells #[.slice A2 x.length c2] 50)).grownBy w1 (Value.slice A5 pre.length c5).ownBlock:=hgrow;have hO1:=(HO.out.alloc (.cells #[.slice A2 x.length c2] 50)).grown hg (fun e=>by have:=(H0.out.lt _ e).1;omega);have hc1:w1.cell? ⟨w.heap.size,0,none⟩=some (.slice A5 pre.length c5):=hO1.cell 0;have hf1:=hO1.free 0;have HO1:=hid hO1;have HG:=hid hg;have HOW:=hid hown';clear hgrow hown' hO1 hg))
  have halb:Below A'.heap.size A' (A'.alloc (.cells #[.slice A2 x.length c2] 50)):=(Below.refl _ _).alloc (Nat.le_refl _) _
  have hkeep:∀k,k<A'.heap.size→k≠w.heap.size→k<w3.heap.size+3→(w1.setCell ⟨w.heap.size,0,none⟩ (.slice A7 (pre.length+1) c7)).heap[k]? =A'.heap[k]? :=fun k h1 h2 h3=>
   (Below.heap_setCell _ _ _ _ (by simpa using h2)).trans ((HG.out.block k (Nat.lt_of_lt_of_le h1 halb.size) (fun e=>by have:=(H0.out.lt k e.symm).1;omega)).trans (halb.block k h1))
  have hT:TI w1 (w3.heap.size+3) (.slice A7 (pre.length+1) c7) (pre++[x]):=TI.snoc H0.out hv2
   (fun i y hy=>by obtain⟨u,bx,h1,h2,h3⟩:=HV3.out i y hy;exact⟨u,bx,h1,h2,kB h3 halb⟩) (by omega) (kB HRow.out halb) HOW.out HG.out
  have hsz1:A'.heap.size≤w1.heap.size:=Nat.le_trans halb.size HG.out.size;have hBw1:Below w.heap.size w w1:=Below.grown (HBw.out.alloc HBw.out.size _) HG.out (by have:=HBw.out.size;simp;omega) (fun k hk=>by have:=(H0.out.lt k hk).1;omega)
  exact⟨hkeep _ (by omega) (by omega) (by omega),hkeep _ (by omega) (by omega) (by omega),
   ⟨⟨_,HO1.out.put 0 _,hT.keep fun k h3 h4=>Below.heap_setCell _ _ _ _ (by simp;omega)⟩,hBw1.setCell (by simp) _⟩,
   by simpa using hsz1,hkeep _ (by omega) (by omega) (by omega),hkeep _ (by omega) (by omega) (by omega),hkeep _ (by omega) (by omega) (by omega)⟩
 case done=>
  rintro W ⟨⟨v,hO,hT⟩,hB⟩ hD;have hcl:W.cell? ⟨w.heap.size,0,none⟩=some v:=hO.cell 0;obtain⟨A5,c5,rfl,_,_⟩:=hT.form;have HB:=hid hB;have HD:=hid hD;have HT:=hid hT;clear hB hD hO hT
  gi_wp2
  refine⟨by simp,.inl ⟨_,_,rfl,run_takeDeferred HD.out,?_⟩⟩;exact⟨_,results_tmp rfl _ _ _,_,w3.heap.size+3,rfl,by omega,HT.out.keep fun k h3 h4=>World.putObj_heap_other (by omega),Below.putObjQ HB.out (by omega) _⟩
end Go.Proofs.YtneafcdfnhnpnaaGreatDoor
namespace Go.Proofs.YtneafcdfnhnpnaaGreatDoor
open Go.RowKit Go.Lib
theorem jB.putN {w:World} {dv:Value} {ws:List Nat} {g i:Nat} {t:TypeId} {cs:List Value} (h:jB w dv (jo ws)) (hO:ja w g t cs) (hc:∀c∈cs,km c) (u:Value):jB (w.setCell ⟨g,i,none⟩ u) dv (jo ws):=by
 obtain⟨A,c,hv,h4,h5,h7⟩:=h;refine⟨A,c,hv,h4,h5,fun hn=> ?_⟩;obtain⟨b,off,hA,hb,hcell⟩:=h7 hn;refine⟨b,off,hA,by simpa using hb,fun j hj0=> ?_⟩;have hj:=hcell j hj0
 have hne:b≠g:=by
  rintro rfl;rw[hO.cell,List.getElem?_eq_getElem hj0] at hj;have hm:=hc _ (List.mem_of_getElem? hj);obtain⟨y,_,hy⟩:=List.mem_map.1 (List.getElem_mem hj0);exact hm _ _ hy.symm
 rw[World.cell?_setCell_other _ _ _ _ (by intro e;injection e with e1;exact hne e1.symm)];exact hj
theorem Ri.put2 {w:World} {v:Value} {x:Int} {g:Nat} {t:TypeId} {a b a' b':Value} (h:Ri w v x) (hO:ja w g t [a,b]) (ha:km a) (hb:km b) (ha':km a'):
  Ri ((w.setCell ⟨g,0,none⟩ a').setCell ⟨g,1,none⟩ b') v x:=by
 obtain⟨dv,ws,h1,h2,h3,h4,h5⟩:=h;have k1:=h5.putN (i:=0) hO (by simp only[List.mem_cons,List.not_mem_nil,or_false];rintro c (rfl | rfl) <;> assumption) a';have hO1:=hO.put 0 a';exact⟨dv,ws,h1,h2,h3,h4,k1.putN (i:=1) hO1 (by simp only[List.set,List.mem_cons,List.not_mem_nil,or_false];rintro c (rfl | rfl) <;> assumption) b'⟩
theorem ja.two {w:World} {g:Nat} {t:TypeId} {a b:Value} (h:ja w g t [a,b]):
  w.cell? ⟨g,0,none⟩=some a∧w.cell? ⟨g,1,none⟩=some b∧w.frozen? ⟨g,0,none⟩=false∧w.frozen? ⟨g,1,none⟩=false:=
 ⟨h.cell 0,h.cell 1,h.free 0,h.free 1⟩
theorem ja.set2 {w:World} {g:Nat} {t:TypeId} {a b a' b':Value} (h:ja w g t [a,b]):ja ((w.setCell ⟨g,0,none⟩ a').setCell ⟨g,1,none⟩ b') g t [a',b']:=(h.put 0 a').put 1 b'
theorem Ri.open_ {w:World} {v:Value} {x:Int} (h:Ri w v x):∃A n c,v = .agg #[.bool (decide (x<0)),.slice A n c]∧n≤c∧n≤140737488355328:=by
 obtain⟨dv,ws,h1,h2,h3,h4,h5⟩:=h;obtain⟨A,c,rfl,hc1,hc2⟩:=h5.form;exact⟨A,_,c,h1,hc1,hc2⟩
def JU (N m:Nat) (ws:List Nat):Prop:=jb ws+B9^ws.length*m=N∧jF ws
theorem JU.step {N m:Nat} {ws:List Nat} (h:JU N m ws):JU N (m/1000000000) (ws++[m%1000000000]):=by
 obtain⟨h1,h2⟩:=h;refine⟨?_,JX.2 ⟨h2,Jm.2 (Nat.mod_lt _ (by decide))⟩⟩;rw[zR,List.length_append,List.length_singleton,Nat.pow_succ,Nat.mul_assoc,Nat.add_assoc,←Nat.mul_add,Nat.mod_add_div,h1]
theorem JU.len {N m:Nat} {ws:List Nat} (h:JU N m ws) (hm:0<m) (hN:N<1000000000000000000000000000):ws.length<3:=by
 rcases Nat.lt_or_ge ws.length 3 with h1 | h1
 ·exact h1
 ·have h2:B9^3≤B9^ws.length:=Nat.pow_le_pow_right (by decide) h1
  have h3:B9^ws.length*1≤B9^ws.length*m:=Nat.mul_le_mul_left _ hm;have h4:=h.1
  have h5:B9^3=1000000000000000000000000000:=by decide
  omega
def Ms (N base:Nat) (g:Nat) (v:Value) (w wr:World):Prop:=∃ws:List Nat,JU N g ws∧ws.length≤3∧wr.ownsRow (base+1) 3 1 v ws.length (jo ws)∧ja wr base 127 [.bool false,.slice none 0 0]∧Below w.heap.size w wr
theorem Ly (N:Nat) (w:World) (hN:N≤9223372036854775807):
  Calls Tryz.prog 126 #[.int .i64 (N:Int)] w (kQ (sg false N) w):=by
 obtain⟨i0,hi,hz0,hz1,hz2⟩:=info_parts y9;have HN:=hid hN;have HNL:Hid (N<1000000000000000000000000000):=hid (by omega)
 have hNI:(N:Int)≤9223372036854775807:=by omega
 clear hN;go_enter Tryz.func126,Tryz.ntmps126
 go_wp2_with fail
 go_loopg [0,3,5] N (fun g u v _ wr=>u = .int .i64 (g:Int)∧(g:Int)≤(N:Int)∧Hid (Ms N w.heap.size g v w wr))
 case atStart=>exact⟨rfl,Int.le_refl _,hid ⟨[],⟨by simp[jb],JY⟩,by decide,World.ownsRow_nil _ _ _ _,ja.make _ _ _,(Below.refl _ _).alloc (Nat.le_refl _) _⟩⟩
 case round=>
  obtain⟨rfl,hgN,hR⟩:=hrel;obtain⟨ws,hI,hl,hO,hOw,hB⟩:=hR.out;clear hR;obtain⟨A7,k7,hvf,hv1,hv2⟩:=j7 hO;have HI:=hid hI;have HO:=hid hO;have HOw:=hid hOw;have HB:=hid hB;clear hI hO hOw hB;subst hvf;by_cases h0:gk=0
  ·subst h0
   have HV:Hid (jb ws=N):=hid (by have:=HI.out.1;omega);have SG:=hid (xB false _ ws wr HI.out.2 (zE HO.out (by omega)));rw[HV.out] at SG
   go_wp2_with fail
   refine SG.out.mono ?_;clear SG;rintro e w2 ⟨rv,rfl,hri,hB2⟩;obtain⟨RA,rn,rc,rfl,hr1,hr2⟩:=hri.open_;generalize hbz:decide (sg false N<0)=bz at *;have HO2:=hid (HOw.out.below hB2 HOw.out.lt);obtain⟨c0,c1,f0,f1⟩:=HO2.out.two;have HRF:=hid (hri.put2 (a':= .bool bz) (b':= .slice RA rn rc) HO2.out (js _) (jq _ _ _) (js _));have HBF:Hid (Below w.heap.size w ((w2.setCell ⟨w.heap.size,0,none⟩ (.bool bz)).setCell ⟨w.heap.size,1,none⟩ (.slice RA rn rc))):=hid (((HB.out.trans (hB2.mono HB.out.size)).setCell (p:=⟨w.heap.size,0,none⟩) (Nat.le_refl _) _).setCell (p:=⟨w.heap.size,1,none⟩) (Nat.le_refl _) _);clear hri hB2 hbz
   go_wp2
   obtain⟨z0,z1,_,_⟩:=(HO2.out.set2 (a':= .bool bz) (b':= .slice RA rn rc)).two;exact bodyPost_ret (v:= .agg #[.bool bz,.slice RA rn rc]) (by simp[results,Tryz.results126,go_sem,z0,z1]) rfl ⟨_,rfl,HRF.out,HBF.out⟩
  ·have hg0:(0:Int)<(gk:Int):=by omega
   have HL:=hid (HI.out.len (by omega) HNL.out);have HS:=hid HI.out.step;have hl3:ws.length<3:=HL.out;have hq:gk/1000000000<gk:=Nat.div_lt_self (by omega) (by decide);have hr9:gk%1000000000<1000000000:=Nat.mod_lt _ (by decide);have hs:=HB.out.size;clear HI
   go_wp2_with (at_builtin;(refine wpList_append_own _ rfl _ _ 50 rfl (w.heap.size+1) 3 i0 (.int .i64 0) 1 8 Tryz.underlying50 hi hz0 hz1 hz2 rfl (by decide) _ _ _ rfl (HO.out.alloc _) ⟨wr.heap.size,0,none⟩ 1 1 [.int .i64 ((gk%1000000000:Nat):Int)] rfl rfl (cell_one_new _ _ _) (fun x hx=>by simp at hx;subst hx;rfl) (by unfold maxLen;omega) (by omega) (by simp;omega) ?_;intro v' w1 hown' hgrow _))
   have HO':Hid (w1.ownsRow (w.heap.size+1) 3 1 v' (ws++[(gk%1000000000)]).length (jo (ws++[(gk%1000000000)]))):=hid (by
    rw[xX,List.length_append,List.length_singleton];exact hown')
   have HOw':Hid (ja w1 w.heap.size 127 [.bool false,.slice none 0 0]):=hid ((HOw.out.alloc _).grown hgrow (fun e=>by have:=(HO.out.lt _ e).1;omega));have HB':=hid (Below.grown (HB.out.alloc hs (.cells #[.int .i64 ((gk%1000000000:Nat):Int)] 3)) hgrow (by simp;omega) (fun j hj=>by have:=(HO.out.lt _ hj).1;omega));have HL':Hid ((ws++[(gk%1000000000)]).length≤3):=hid (by rw[List.length_append,List.length_singleton];omega);clear hown' hgrow
   go_wp2
   go_roundg (gk/1000000000)
   case rel=>exact⟨by go_num,by omega,hid ⟨_,HS.out,HL'.out,HO'.out,HOw'.out,HB'.out⟩⟩
   case measure=>exact hq
theorem Lw (N:Nat) (w:World) (hN0:0<N) (hN:N≤9223372036854775808):
  Calls Tryz.prog 126 #[.int .i64 (-(N:Int))] w (kQ (sg true N) w):=by
 obtain⟨i0,hi,hz0,hz1,hz2⟩:=info_parts y9;have HN:=hid hN;have HNL:Hid (N<1000000000000000000000000000):=hid (by omega)
 have hNI:(N:Int)≤9223372036854775808:=by omega
 have hN1:(0:Int)<N:=by omega
 clear hN0;clear hN;go_enter Tryz.func126,Tryz.ntmps126
 go_wp2_with fail
 go_loopg [0,3,5] N (fun g u v _ wr=>u = .int .i64 (-(g:Int))∧(g:Int)≤(N:Int)∧Hid (Ms N w.heap.size g v w wr))
 case atStart=>exact⟨rfl,Int.le_refl _,hid ⟨[],⟨by simp[jb],JY⟩,by decide,World.ownsRow_nil _ _ _ _,ja.make _ _ _,(Below.refl _ _).alloc (Nat.le_refl _) _⟩⟩
 case round=>
  obtain⟨rfl,hgN,hR⟩:=hrel;obtain⟨ws,hI,hl,hO,hOw,hB⟩:=hR.out;clear hR;obtain⟨A7,k7,hvf,hv1,hv2⟩:=j7 hO;have HI:=hid hI;have HO:=hid hO;have HOw:=hid hOw;have HB:=hid hB;clear hI hO hOw hB;subst hvf;by_cases h0:gk=0
  ·subst h0
   have HV:Hid (jb ws=N):=hid (by have:=HI.out.1;omega);have SG:=hid (xB true _ ws wr HI.out.2 (zE HO.out (by omega)));rw[HV.out] at SG
   go_wp2_with fail
   rw[show decide (0<N)=true from decide_eq_true (by omega)];refine SG.out.mono ?_;clear SG;rintro e w2 ⟨rv,rfl,hri,hB2⟩;obtain⟨RA,rn,rc,rfl,hr1,hr2⟩:=hri.open_;generalize hbz:decide (sg true N<0)=bz at *;have HO2:=hid (HOw.out.below hB2 HOw.out.lt);obtain⟨c0,c1,f0,f1⟩:=HO2.out.two;have HRF:=hid (hri.put2 (a':= .bool bz) (b':= .slice RA rn rc) HO2.out (js _) (jq _ _ _) (js _));have HBF:Hid (Below w.heap.size w ((w2.setCell ⟨w.heap.size,0,none⟩ (.bool bz)).setCell ⟨w.heap.size,1,none⟩ (.slice RA rn rc))):=hid (((HB.out.trans (hB2.mono HB.out.size)).setCell (p:=⟨w.heap.size,0,none⟩) (Nat.le_refl _) _).setCell (p:=⟨w.heap.size,1,none⟩) (Nat.le_refl _) _);clear hri hB2 hbz
   go_wp2
   obtain⟨z0,z1,_,_⟩:=(HO2.out.set2 (a':= .bool bz) (b':= .slice RA rn rc)).two;exact bodyPost_ret (v:= .agg #[.bool bz,.slice RA rn rc]) (by simp[results,Tryz.results126,go_sem,z0,z1]) rfl ⟨_,rfl,HRF.out,HBF.out⟩
  ·have hg0:(0:Int)<(gk:Int):=by omega
   have HL:=hid (HI.out.len (by omega) HNL.out);have HS:=hid HI.out.step;have hl3:ws.length<3:=HL.out;have hq:gk/1000000000<gk:=Nat.div_lt_self (by omega) (by decide);have hr9:gk%1000000000<1000000000:=Nat.mod_lt _ (by decide);have hs:=HB.out.size
   have e1:(-(gk:Int)).tmod 1000000000 = -((gk%1000000000:Nat):Int):=by rw[Int.neg_tmod];congr 1
   have e2:(-(gk:Int)).tdiv 1000000000 = -((gk/1000000000:Nat):Int):=by rw[Int.neg_tdiv];congr 1
   generalize gk%1000000000=r at *;generalize gk/1000000000=q at *;rcases Nat.eq_zero_or_pos r with hr0 | hr0
   ·subst hr0
    have e3:(-(gk:Int)).tmod 1000000000=0:=by rw[e1];rfl
    clear e1;clear HI
    go_wp2_with (at_builtin;(refine wpList_append_own _ rfl _ _ 50 rfl (w.heap.size+1) 3 i0 (.int .i64 0) 1 8 Tryz.underlying50 hi hz0 hz1 hz2 rfl (by decide) _ _ _ rfl (HO.out.alloc _) ⟨wr.heap.size,0,none⟩ 1 1 [.int .i64 0] rfl rfl (cell_one_new _ _ _) (fun x hx=>by simp at hx;subst hx;rfl) (by unfold maxLen;omega) (by omega) (by simp;omega) ?_;intro v' w1 hown' hgrow _))
    have HO':Hid (w1.ownsRow (w.heap.size+1) 3 1 v' (ws++[0]).length (jo (ws++[0]))):=hid (by
     rw[xX,List.length_append,List.length_singleton];exact hown')
    have HOw':Hid (ja w1 w.heap.size 127 [.bool false,.slice none 0 0]):=hid ((HOw.out.alloc _).grown hgrow (fun e=>by have:=(HO.out.lt _ e).1;omega));have HB':=hid (Below.grown (HB.out.alloc hs (.cells #[.int .i64 0] 3)) hgrow (by simp;omega) (fun j hj=>by have:=(HO.out.lt _ hj).1;omega));have HL':Hid ((ws++[0]).length≤3):=hid (by rw[List.length_append,List.length_singleton];omega);clear hown' hgrow
    go_wp2
    go_roundg q
    case rel=>exact⟨by go_num,by omega,hid ⟨_,HS.out,HL'.out,HO'.out,HOw'.out,HB'.out⟩⟩
    case measure=>exact hq
   ·have hr1:(0:Int)<(r:Int):=by omega
    clear HI
    go_wp2_with (at_builtin;(refine wpList_append_own _ rfl _ _ 50 rfl (w.heap.size+1) 3 i0 (.int .i64 0) 1 8 Tryz.underlying50 hi hz0 hz1 hz2 rfl (by decide) _ _ _ rfl (HO.out.alloc _) ⟨wr.heap.size,0,none⟩ 1 1 [.int .i64 (r:Int)] rfl rfl (cell_one_new _ _ _) (fun x hx=>by simp at hx;subst hx;rfl) (by unfold maxLen;omega) (by omega) (by simp;omega) ?_;intro v' w1 hown' hgrow _))
    have HO':Hid (w1.ownsRow (w.heap.size+1) 3 1 v' (ws++[r]).length (jo (ws++[r]))):=hid (by
     rw[xX,List.length_append,List.length_singleton];exact hown')
    have HOw':Hid (ja w1 w.heap.size 127 [.bool false,.slice none 0 0]):=hid ((HOw.out.alloc _).grown hgrow (fun e=>by have:=(HO.out.lt _ e).1;omega));have HB':=hid (Below.grown (HB.out.alloc hs (.cells #[.int .i64 (r:Int)] 3)) hgrow (by simp;omega) (fun j hj=>by have:=(HO.out.lt _ hj).1;omega));have HL':Hid ((ws++[r]).length≤3):=hid (by rw[List.length_append,List.length_singleton];omega);clear hown' hgrow
    go_wp2
    go_roundg q
    case rel=>exact⟨by go_num,by omega,hid ⟨_,HS.out,HL'.out,HO'.out,HOw'.out,HB'.out⟩⟩
    case measure=>exact hq
theorem Lv (x:Int) (w:World) (h: -9223372036854775808≤x∧x≤9223372036854775807):
  Calls Tryz.prog 126 #[.int .i64 x] w (kQ x w):=by
 by_cases hx:x<0
 ·have e:x = -(x.natAbs:Int):=by omega
  have h2:=Lw x.natAbs w (by omega) (by omega)
  have e2:sg true x.natAbs=x:=by unfold sg;rw[if_pos rfl];omega
  rw[e2,←e] at h2;exact h2
 ·have e:x=(x.natAbs:Int):=by omega
  have h2:=Ly x.natAbs w (by omega)
  have e2:sg false x.natAbs=x:=by unfold sg;rw[if_neg (by decide)];omega
  rw[e2,←e] at h2;exact h2
