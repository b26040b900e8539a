/- Contract: a matrix of integers is read modulo a prime number. -/
import Derived.Test.YtneafcdfnhnpnaaGreatDoorZK09
set_option maxRecDepth 100000
set_option maxHeartbeats 2000000
namespace Go.Proofs.YtneafcdfnhnpnaaGreatDoor
open Go.RowKit
theorem PF.of_prime {p:Int} (h:yr p) (h2:p≤999999999):PF p:=by
 refine⟨h.1,by omega,fun b h0 h1=> ?_⟩;have hb:(Int.gcd b p:Int)∣b:=Int.gcd_dvd_left ..;have hp:(Int.gcd b p:Int)∣p:=Int.gcd_dvd_right ..;have hpos:0<Int.gcd b p:=Int.gcd_pos_of_ne_zero_left _ (by omega);have hle:(Int.gcd b p:Int)≤b:=Int.le_of_dvd h0 hb;rcases Nat.lt_or_ge (Int.gcd b p) 2 with hl | hl
 ·omega
 ·exact absurd (Int.emod_eq_zero_of_dvd hp) (h.2 _ (by omega) (by omega))
theorem Cq {T:Type} (R:List (jZ T)) (k:Nat) (L L':List T):setRow (setRow R k L) k L'=setRow R k L':=by
 apply List.ext_getElem?;intro j;by_cases hj:k=j
 ·subst hj
  cases hr:R[k]? with
  | none=>simp[setRow,hr]
  | some r=>rw[xt (xt hr L),xt hr]
 ·rw[zH hj,zH hj,zH hj]
theorem NI (f:Int→Int) (L:List Int):kT f 0 L.length L=L.map f:=by
 unfold kT;apply List.ext_getElem?;intro j;rw[List.getElem?_mapIdx,List.getElem?_map];rcases Nat.lt_or_ge j L.length with h | h
 ·rw[List.getElem?_eq_getElem h];simp[h]
 ·rw[List.getElem?_eq_none h];rfl
def Kc (p:Int) (M:List (List Int)):List (List Int):=M.map fun r=>r.map (· %p)
def B6 (M:List (List Int)) (p:Int) (w:World) (e:Ending) (w':World):Prop:=
 Below w.heap.size w w'∧((kM M=0∧yr p∧p≤999999999 ∧ ∃(g:Nat) (R:List jS),e = .returned (.tuple #[.slice (some ⟨g,0,none⟩) M.length M.length,.int .i64 0])∧w.heap.size≤g∧(∀r∈R,w.heap.size≤r.1)∧kd w' g R ((M[0]?.map (·.length)).getD 0)∧R.map (·.2.2)=Kc p M) ∨
  (kM M=0 ∧ ¬(yr p∧p≤999999999)∧e = .returned (.tuple #[jr,.int .i64 15]))∨(kM M≠0∧e = .returned (.tuple #[jr,.int .i64 (kM M)])))
structure zP (p:Int) (n g:Nat) (R:List jS) (w wr:World) (Q:List jS):Prop where
 mx:kd wr g Q n
 new:∀r∈R,w.heap.size≤r.1
 blocks:Q.map (·.1)=R.map (·.1)
 below:Below w.heap.size w wr
theorem zP.newQ {p:Int} {n g:Nat} {R Q:List jS} {w wr:World} (h:zP p n g R w wr Q) {r:jS} (hr:r∈Q):w.heap.size≤r.1:=by
 have:r.1∈R.map (·.1):=by rw[←h.blocks];exact List.mem_map_of_mem hr
 obtain⟨q,hq,e⟩:=List.mem_map.1 this;rw[←e];exact h.new q hq
theorem zP.put {p:Int} {n g:Nat} {R Q:List jS} {w wr:World} (h:zP p n g R w wr Q) {k j:Nat} {r:jS} (hr:Q[k]? =some r) (x:Int):
  zP p n g R w (wr.setCell ⟨r.1,j,none⟩ (.int .i64 x)) (setRow Q k (r.2.2.set j x)):=by
 have hm:=h.mx.row r (List.mem_of_getElem? hr);refine⟨h.mx.setRow hr (by rw[←xF];exact hm.1.put j _) (by rw[List.length_set];exact hm.2.1) ((jh.refl r.1 wr).setCell ⟨r.1,j,none⟩ rfl _),h.new,by rw[Ql];exact h.blocks,h.below.setCell (h.newQ (List.mem_of_getElem? hr)) _⟩
theorem NK (f:Int→Int) (L:List Int) (j:Nat) (h:j<L.length):(kT f 0 j L).set j (f (L[j]?.getD 0))=kT f 0 (j+1) L:=by
 have:=Y6 f 0 j L (by omega);simpa using this
theorem Bd (v:Value) (M:List (List Int)) (p:Int) (w:World) (hv:yV w v M):
  Calls Tryz.prog 162 #[v,.int .i64 p] w (B6 M p w):=by
 have RR:=Lib.hid (Bf v M w hv);have PR:=Lib.hid (fun W=>ML p W);clear hv;go_enter Tryz.func162,Tryz.ntmps162
 go_wp2_with fail
 refine RR.out.mono ?_;clear RR;rintro e w1 ⟨hB1,⟨hM,g,R,rfl,hg,hnew,hmx,hvals⟩ | ⟨hM,rfl⟩⟩
 ·have HM:=Lib.hid hM
  have HB1:=Lib.hid hB1;have HNew:=Lib.hid hnew;have HMX:=Lib.hid hmx;have HV:=Lib.hid hvals;have HRl:Hid (R.length=M.length):=Lib.hid (by rw[←hvals,List.length_map])
  have hM0:M.length≤256:=by
   unfold kM at hM;split at hM
   ·cases hM
   ·omega
  clear hM hB1 hnew hmx hvals;by_cases hr:0≤p∧p≤999999999
  ·have PR2:Hid (Calls Tryz.prog 42 #[.int .i64 p] w1 fun e w'=>(∃b:Bool,e = .returned (.tuple #[.bool b,.int .i64 0])∧(b=true↔yr p))∧w1=w'):=Lib.hid ((PR.out w1).mono fun e w' h=>by unfold Zn at h;rw[if_pos hr] at h;exact h)
   by_cases hp:yr p
   ·have HP:=Lib.hid hp
    have HPF:=Lib.hid (PF.of_prime hp hr.2)
    have hp1:1≤p:=by have:=hp.1;omega
    have hp2:=hr.2;clear PR hp hr
    go_wp2_with fail
    refine PR2.out.mono ?_;rintro e w2 ⟨⟨b,rfl,hb⟩,rfl⟩;have hbt:=hb.2 HP.out;subst hbt;clear hb PR2;generalize hne:(M[0]?.map (·.length)).getD 0=n at *;have HN:=Lib.hid hne;clear hne
    go_wp2_with fail
    go_loopg [35] M.length (fun gh i wr=>∃k:Nat,i = .int .i64 k∧k+gh=M.length∧Hid (zP p n g R w wr (ke (·.map (· %p)) R k)))
    case atStart=>exact⟨0,rfl,by omega,Lib.hid ⟨by rw[Xj];exact HMX.out,HNew.out,by rw[Xj],HB1.out⟩⟩
    case round=>
     obtain⟨k,rfl,hk,hT⟩:=hrel
     cases gk with
     | zero=>
      have hin:¬((k:Int)<(M.length:Int)):=by omega
      have hkR:k=R.length:=by have:=HRl.out;omega
      go_wp2
      go_ret2;have h:=hT.out;rw[hkR] at h;refine⟨h.below,.inl ⟨HM.out,HP.out,hp2,g,_,rfl,hg,fun r hr=>h.newQ hr,HN.out ▸ h.mx,?_⟩⟩;rw[Y7,List.map_map,←HV.out];unfold Kc;rw[List.map_map];rfl
     | succ gh=>
      have hlt:k<M.length:=by omega
      have hlt':(k:Int)<(M.length:Int):=by omega
      obtain⟨r,hr⟩:∃r,R[k]? =some r:=⟨R[k]'(by rw[HRl.out];exact hlt),List.getElem?_eq_getElem _⟩
      have hr':=(Xi (f:=(·.map (· %p))) (R:=R) k).trans hr;have hck:=hT.out.mx.cellRow hr';have hgl:=hT.out.mx.own.lt;obtain⟨_,hrl,hrc1,hrc2⟩:=hT.out.mx.row _ (List.mem_of_getElem? hr');have HT0:Hid (zP p n g R w wr (setRow (ke (·.map (· %p)) R k) k (kT (· %p) 0 0 r.2.2))):=Lib.hid (by rw[VR,Cp hr'];exact hT.out);have Hst:Hid (setRow (ke (·.map (· %p)) R k) k (kT (· %p) 0 n r.2.2)=ke (·.map (· %p)) R (k+1)):=Lib.hid (by rw[←hrl,NI];exact Y8 (f:=(·.map (· %p))) hr);have Hr:=Lib.hid hr';have Hk:=Lib.hid hk;have Hrl:=Lib.hid hrl;clear hr hr' hT hk hrl;obtain⟨kb,kc,kl⟩:=r;unfold qy at hck;dsimp only at hck hrc1 hrc2
      go_wp2_with fail
      go_loopg [41] n (fun gh2 ix wx=>∃j:Nat,ix = .int .i64 j∧j+gh2=n∧Hid (zP p n g R w wx (setRow (ke (·.map (· %p)) R k) k (kT (· %p) 0 j kl))))
      case atStart=>exact⟨0,rfl,by omega,HT0⟩
      case round=>
       clear HT0 hck hgl;obtain⟨j,rfl,hj,hTx⟩:=hrel
       cases gk with
       | zero=>
        have hin2:¬((j:Int)<(n:Int)):=by omega
        have hjn:j=n:=by omega
        have HQ:=Lib.hid hTx.out;rw[hjn,Hst.out] at HQ;clear hjn hTx hj
        go_wp2
        go_roundg gh
        case rel=>exact⟨k+1,by go_num,by have:=Hk.out;omega,HQ⟩
        case measure=>omega
       | succ gh2=>
        have hjl:j<n:=by omega
        have hjl':(j:Int)<(n:Int):=by omega
        have hrow:=xt Hr.out (kT (· %p) 0 j kl);have c1:=hTx.out.mx.cellNum hrow hjl;have f1:=(hTx.out.mx.row _ (List.mem_of_getElem? hrow)).1.free j;have hbl:=(hTx.out.mx.row _ (List.mem_of_getElem? hrow)).1.lt
        have hat:(kT (· %p) 0 j kl)[j]? =kl[j]? :=by have:=Y4 (· %p) 0 j kl;simpa using this
        have Hs:=Lib.hid (NK (· %p) kl j (by have:=Hrl.out;omega));dsimp only at c1 f1 hbl;rw[hat] at c1;have HP2:=Lib.hid (hTx.out.put (j:=j) hrow (kl[j]?.getD 0%p));rw[Cq] at HP2;dsimp only at HP2;rw[Hs.out] at HP2;have Hj:=Lib.hid hj;clear hrow hat Hs hTx hj;generalize kl[j]?.getD 0=x at *
        go_wp2_with (go_at_call 190;refine(Qi _ _ _ hp1 (by omega)).mono ?_;rintro e w' ⟨rfl,rfl⟩)
        go_roundg gh2
        case rel=>exact⟨j+1,by go_num,by have:=Hj.out;omega,HP2⟩
        case measure=>omega
   ·have HP:=Lib.hid hp
    clear PR hp hr
    go_wp2_with fail
    refine PR2.out.mono ?_;rintro e w2 ⟨⟨b,rfl,hb⟩,rfl⟩
    have hbt:b=false:=by
     cases b with
     | false=>rfl
     | true=>exact absurd (hb.1 rfl) HP.out
    subst hbt;clear hb PR2
    go_wp2
    go_ret2;exact⟨HB1.out,.inr (.inl ⟨HM.out,fun h=>HP.out h.1,rfl⟩)⟩
  ·have PR2:Hid (Calls Tryz.prog 42 #[.int .i64 p] w1 fun e w'=>e = .returned (.tuple #[.bool false,.int .i64 3])∧w1=w'):=Lib.hid ((PR.out w1).mono fun e w' h=>by unfold Zn at h;rw[if_neg hr] at h;exact h)
   have HR:=Lib.hid hr;clear PR hr
   go_wp2_with fail
   refine PR2.out.mono ?_;rintro e w2 ⟨rfl,rfl⟩;clear PR2
   go_wp2
   go_ret2;exact⟨HB1.out,.inr (.inl ⟨HM.out,fun h=>HR.out ⟨by have:=h.1.1;omega,h.2⟩,rfl⟩)⟩
 ·have HM:=Lib.hid hM
  have HB1:=Lib.hid hB1
  have hb:(kM M != 0)=true:=by simpa using hM
  clear hM hB1
  obtain⟨E,hE⟩:∃E,E=kM M:=⟨_,rfl⟩
  have HE:=Lib.hid hE;rw[←hE] at hb ⊢;clear hE PR
  go_wp2
  go_ret2;exact⟨HB1.out,.inr (.inr ⟨HM.out,by rw[HE.out];rfl⟩)⟩
def yA (w:World) (base:Nat) (v:Value) (B:List (Nat×List Int)):Prop:=
 w.ownsRow base 50 1 v B.length (B.map fun r=>Value.slice (some ⟨r.1,0,none⟩) r.2.length r.2.length) ∧ ∀r∈B,base≤r.1∧ja w r.1 3 (jc r.2)∧r.2.length≤1000000
theorem yA.below {w w':World} {base:Nat} {v:Value} {B:List (Nat×List Int)} (h:yA w base v B) (hb:Below w.heap.size w w'):yA w' base v B:=
 ⟨kC h.1 hb,fun r hr=>⟨(h.2 r hr).1,(h.2 r hr).2.1.below hb (h.2 r hr).2.1.lt,(h.2 r hr).2.2⟩⟩
theorem yA.snoc {w w':World} {base:Nat} {v v':Value} {B:List (Nat×List Int)} {gl:Nat} {L:List Int} (h:yA w base v B) (hg:w.grownBy w' v.ownBlock) (hown:w'.ownsRow base 50 1 v' (B.length+1) (B.map (fun r=>Value.slice (some ⟨r.1,0,none⟩) r.2.length r.2.length)++[.slice (some ⟨gl,0,none⟩) L.length L.length]))
  (hO:ja w gl 3 (jc L)) (hgl:base≤gl) (hl:L.length≤1000000):yA w' base v' (B++[(gl,L)]):=by
 have hne:∀k cs,ja w k 3 cs→v.ownBlock≠some k:=by
  intro k cs hk e
  rcases h.1.2 with ⟨rfl,_⟩ | ⟨g,cap,cur,rfl,_,hg',_⟩
  ·simp[Value.ownBlock] at e
  ·simp[Value.ownBlock] at e
   subst e;unfold ja at hk;rw[hg'] at hk
   injection hk with hk
   injection hk with _ hk
   exact absurd hk (by decide)
 refine⟨by rw[List.map_append,List.length_append];exact hown,fun r hr=> ?_⟩;rcases List.mem_append.1 hr with hr | hr
 ·have:=h.2 r hr
  exact⟨this.1,this.2.1.grown hg (hne _ _ this.2.1),this.2.2⟩
 ·obtain rfl:=List.mem_singleton.1 hr
  exact⟨hgl,hO.grown hg (hne gl _ hO),hl⟩
theorem zc {w:World} {base:Nat} {e:TypeId} {v:Value} {n:Nat} {xs:List Value} (h:w.ownsRow base e 1 v n xs) (hn:n≤140737488355328):jE w v xs:=by
 obtain⟨A,c,rfl,hc,hm⟩:=j8 h
 have hl:xs.length=n:=by have:=h.1;omega
 refine⟨A,c,by rw[hl],by omega,by omega,fun h0=> ?_⟩;obtain⟨g,rfl,_,hlt,hcell⟩:=Ja h (j:=0) (by omega);exact⟨g,0,rfl,hlt,fun j hj=>by rw[Nat.zero_add];exact hcell j (by omega)⟩
def qE (w:World) (v:Value) (M:List (List Int)):Prop:=
 ∃vs:List Value,jE w v vs∧vs.length=M.length ∧ ∀(i:Nat) (r:List Int),M[i]? =some r → ∃u,vs[i]? =some u∧jE w u (jc r)
theorem qE.below {w w':World} {v:Value} {M:List (List Int)} (h:qE w v M) (hb:Below w.heap.size w w'):qE w' v M:=by
 obtain⟨vs,h1,h2,h3⟩:=h;exact⟨vs,h1.below hb,h2,fun i r hr=>by obtain⟨u,hu,hs⟩:=h3 i r hr;exact⟨u,hu,hs.below hb⟩⟩
theorem yA.tblW {w:World} {base:Nat} {v:Value} {B:List (Nat×List Int)} (h:yA w base v B) (hl:B.length≤140737488355328):qE w v (B.map (·.2)):=by
 refine⟨_,zc h.1 hl,by simp,fun i r hr=> ?_⟩;rw[List.getElem?_map] at hr
 cases hb:B[i]? with
 | none=>rw[hb] at hr;cases hr
 | some x=>
  rw[hb] at hr;obtain rfl:=Option.some.inj hr;have:=h.2 x (List.mem_of_getElem? hb);exact⟨_,by rw[List.getElem?_map,hb];rfl,(this.2.1.sl _ (by rw[jQ]) (by omega)).wide⟩
theorem Vu:(Tryz.prog.info? 50).map (fun i=>(i.zero,i.size,i.bytes))=some (some (.slice none 0 0),1,24):=by kernel_rfl
def No (M:List (List Int)) (p:Int) (w:World) (e:Ending) (w':World):Prop:=
 Below w.heap.size w w'∧((kM M=0∧yr p∧p≤999999999 ∧ ∃(R:List jS) (v:Value) (B:List (Nat×List Int)),e = .returned (.tuple #[v,.int .i64 0])∧R.map (·.2.2)=Kc p M∧yA w' w.heap.size v B∧B.length≤256 ∧
   B.map (·.2)=nsBasis (jC p) 0 1 ((M[0]?.map (·.length)).getD 0) (j3 (jC p) ((M[0]?.map (·.length)).getD 0) R.length 0 ⟨ke List.reverse R R.length,[],[],false⟩) ((M[0]?.map (·.length)).getD 0)) ∨
  (kM M=0 ∧ ¬(yr p∧p≤999999999)∧e = .returned (.tuple #[jr,.int .i64 15]))∨(kM M≠0∧e = .returned (.tuple #[jr,.int .i64 (kM M)])))
theorem Wc {T:Type} (F:Fd T) (zero one:T) (n:Nat) (S:jP T) (k:Nat):(nsBasis F zero one n S k).length≤k:=by
 induction k with
 | zero=>simp[nsBasis]
 | succ k ih=>unfold nsBasis;rw[List.length_append];split <;> simp <;> omega
theorem Cc {n0:Nat} {M:List (List Int)} (h:yM n0 M=0):∀r∈M,r.length≤256∧r.length=n0∧yq r:=by
 induction M with
 | nil=>simp
 | cons a t ih=>
  unfold yM at h;split at h
  ·cases h
  ·split at h
   ·cases h
   ·split at h
    ·intro r hr
     rcases List.mem_cons.1 hr with rfl | hr
     ·rename_i h1 h2 h3;exact⟨by omega,by simpa using h2,h3⟩
     ·exact ih h r hr
    ·cases h
theorem Y9 {M:List (List Int)} (h:kM M=0):M.length≤256∧((M[0]?.map (·.length)).getD 0)≤256 ∧ ∀r∈M,r.length=(M[0]?.map (·.length)).getD 0∧yq r:=by
 unfold kM at h;split at h
 ·cases h
 ·have hr:=Cc h
  refine⟨by omega,?_,fun r h=>⟨(hr r h).2.1,(hr r h).2.2⟩⟩
  cases M with
  | nil=>simp
  | cons a t=>have:=hr a (by simp);simpa using this.1
theorem MM (v:Value) (M:List (List Int)) (p:Int) (w:World) (hv:yV w v M):
  Calls Tryz.prog 87 #[v,.int .i64 p] w (No M p w):=by
 have RM:=Lib.hid (Bd v M p w hv);clear hv;obtain⟨i0,hi0,hz0,hz1,hz2⟩:=info_parts Vu;go_enter Tryz.func87,Tryz.ntmps87
 go_wp2_with fail
 refine RM.out.mono ?_;clear RM;rintro e w1 ⟨hB1,⟨hM,hp,hp2,g,R,rfl,hg,hnew,hmx,hvals⟩ | ⟨hM,hp,rfl⟩ | ⟨hM,rfl⟩⟩
 ·have HMO:=Lib.hid (Y9 hM)
  have HRl:Hid (R.length=M.length):=Lib.hid (by have:=congrArg List.length hvals;simpa [Kc] using this);have hn1:=(Y9 hM).2.1;have hm1:=(Y9 hM).1;generalize hne:(M[0]?.map (·.length)).getD 0=n at *;have HN:=Lib.hid hne
  have NS:Hid (Calls Tryz.prog 164 #[.iface 197 (.agg #[.int .i64 p]),.slice (some ⟨g,0,none⟩) M.length M.length] w1 (Wd p n g R w1)):=Lib.hid (by
   have hI:xN p R:=by
    intro r hr x hx
    have:r.2.2∈Kc p M:=by rw[←hvals];exact List.mem_map_of_mem hr
    obtain⟨q,_,hq⟩:=List.mem_map.1 this;rw[←hq] at hx;obtain⟨y,_,rfl⟩:=List.mem_map.1 hx;have:=hp.1;exact⟨Int.emod_nonneg _ (by omega),Int.emod_lt_of_pos _ (by omega)⟩
   have h:=Dk p g M.length n R w1 hmx (by rw[HRl.out];exact Nat.le_refl _) (by omega) (by omega) (PF.of_prime hp hp2) hI (fun e=>by
    have:M=[]:=List.length_eq_zero_iff.1 (by rw[←HRl.out,e];rfl)
    rw[←hne,this];rfl)
   rw[HRl.out] at h
   exact h)
  have HP:=Lib.hid (And.intro hp hp2);have HM:=Lib.hid hM;have HB1:=Lib.hid hB1;have HV:=Lib.hid hvals
  have HNew:Hid (∀k∈g::R.map (·.1),w.heap.size≤k):=Lib.hid (by
   intro k hk;rcases List.mem_cons.1 hk with rfl | hk
   ·exact hg
   ·obtain⟨r,hr,rfl⟩:=List.mem_map.1 hk
    exact hnew r hr)
  clear hM hB1 hvals hnew hg hmx hp hp2 hne
  go_wp2_with fail
  refine NS.out.mono ?_;clear NS;rintro e w2 ⟨bv,B,rfl,hBe,hT,hbs⟩;have HB2:Hid (Below w.heap.size w w2):=Lib.hid (HB1.out.trans ⟨hbs.os,hbs.tape,hbs.output,hbs.size,fun k hk=>hbs.block k (Nat.lt_of_lt_of_le hk HB1.out.size) (fun hc=>by have:=HNew.out k hc;omega)⟩);have HBe:=Lib.hid hBe
  have hBl:B.length≤n:=by
   have h1:=congrArg List.length hBe;rw[List.length_map] at h1;rw[h1];exact Wc ..
  have HT:=Lib.hid hT;obtain⟨A1,k1,rfl,hk1,hk2⟩:=j8 hT.1;clear hBe hT hbs HNew HB1
  go_wp2_with fail
  go_loopg [8,29] B.length (fun gh bs i wr=>∃(k:Nat) (C:List (Nat×List Int)),i = .int .i64 k∧k+gh=B.length∧Hid (C.map (·.2)=(B.map (·.2)).take k)∧Hid (yA wr w2.heap.size bs C)∧Hid (Below w2.heap.size w2 wr))
  case atStart=>exact⟨0,[],rfl,by omega,Lib.hid rfl,Lib.hid ⟨World.ownsRow_nil _ _ _ _,by simp⟩,Lib.hid (Below.refl _ _)⟩
  case round=>
   obtain⟨k,C,rfl,hk,hC,hO,hW⟩:=hrel
   have hCl:C.length=k:=by
    have h1:=congrArg List.length hC.out;simp at h1;omega
   cases gk with
   | zero=>
    have hin:¬((k:Int)<(B.length:Int)):=by omega
    have hkB:k=B.length:=by omega
    have HCe:Hid (C.map (·.2)=B.map (·.2)):=Lib.hid (by rw[hC.out,List.take_of_length_le (by rw[List.length_map];omega)]);have HT2:Hid (yA wr w.heap.size u8 C):=Lib.hid ⟨JA hO.out.1 HB2.out.size,fun r hr=>⟨Nat.le_trans HB2.out.size (hO.out.2 r hr).1,(hO.out.2 r hr).2⟩⟩;have HBt:=Lib.hid (HB2.out.trans (hW.out.mono HB2.out.size));clear hkB hC hO hW
    go_wp2
    go_ret2;exact⟨HBt.out,.inl ⟨HM.out,HP.out.1,HP.out.2,R,_,C,rfl,HV.out,HT2.out,by omega,by rw[HCe.out,HBe.out,HN.out]⟩⟩
   | succ gh=>
    have hlt:k<B.length:=by omega
    have hlt':(k:Int)<(B.length:Int):=by omega
    obtain⟨q,hq⟩:∃q,B[k]? =some q:=⟨B[k],List.getElem?_eq_getElem hlt⟩
    obtain⟨gB,hA,_,hgBl,hcell⟩:=Ja HT.out.1 (j:=k) hlt;have hck:wr.cell? ⟨gB,k,none⟩=some (.slice (some ⟨q.1,0,none⟩) n n):=(hW.out.cell (p:=⟨gB,k,none⟩) hgBl).trans ((hcell k hlt).trans (by rw[List.getElem?_map,hq];rfl));obtain⟨_,hqo,hql⟩:=HT.out.2 q (List.mem_of_getElem? hq);have HqO:=Lib.hid (hqo.below hW.out hqo.lt);have Hq:Hid ((B.map (·.2)).take (k+1)=(B.map (·.2)).take k++[q.2]):=Lib.hid (by rw[List.take_add_one,List.getElem?_map,hq];rfl);have Hk:=Lib.hid hk;have hs2:w2.heap.size≤wr.heap.size:=hW.out.size;subst hA;clear hcell hqo hq hk;obtain⟨bk,L⟩:=q;dsimp only at hck hql HqO Hq;have hmk:=Jx wr n (by omega)
    have HO0:Hid (ja (wr.alloc (.cells (jc (List.replicate n 0)).toArray 3)) wr.heap.size 3 (jc (xi L 0))):=Lib.hid (by
     rw[WE,hql];exact ja.make _ _ _)
    have Hql:=Lib.hid hql;clear hql
    go_wp2_with fail
    obtain⟨wb,rfl⟩:∃wb,wb=wr:=⟨_,rfl⟩
    go_loopg [38] n (fun gh2 ix wx=>∃j:Nat,ix = .int .i64 j∧j+gh2=n∧Hid (ja wx wb.heap.size 3 (jc (xi L j)))∧Hid (Below wb.heap.size wb wx))
    case atStart=>exact⟨0,rfl,by omega,HO0,Lib.hid ((Below.refl _ _).alloc (Nat.le_refl _) _)⟩
    case round=>
     clear HO0 hmk hck;obtain⟨j,rfl,hj,hOx,hBx⟩:=hrel
     cases gk with
     | zero=>
      have hin2:¬((j:Int)<(n:Int)):=by omega
      have HL2:Hid (ja wr wb.heap.size 3 (jc L)):=Lib.hid (by
       have:j=L.length:=by have:=Hql.out;omega
       have h:=hOx.out
       rwa [this,Wx] at h)
      have HO2:=Lib.hid (hO.out.below hBx.out);obtain⟨A9,k9,hbv,_,_⟩:=j8 HO2.out.1;have hs3:=hBx.out.size;have Hj:=Lib.hid hj
      have hk7:C.length+1≤1000:=by have:=Hk.out;omega
      subst hbv;clear hO hOx hj
      go_wp2_with (at_builtin;(refine wpList_append_own _ rfl _ _ 57 rfl w2.heap.size 50 i0 (.slice none 0 0) 1 24 Tryz.underlying57 hi0 hz0 hz1 hz2 rfl (by decide) _ _ _ rfl (HO2.out.1.alloc _) ⟨wr.heap.size,0,none⟩ 1 1 [.slice (some ⟨wb.heap.size,0,none⟩) n n] rfl rfl (cell_one_new _ _ _) (fun x hx=>by simp at hx;subst hx;rfl) (by unfold maxLen;omega) (by omega) (by simp;omega) ?_;intro v7 w7 hown7 hgrow7 _))
      have hal:Below wr.heap.size wr (wr.alloc (.cells #[.slice (some ⟨wb.heap.size,0,none⟩) n n] 50)):=(Below.refl _ _).alloc (Nat.le_refl _) _;have HT7:=Lib.hid ((HO2.out.below hal).snoc (L:=L) hgrow7 (by rw[Hql.out];exact hown7) (HL2.out.below hal HL2.out.lt) hs2 (by rw[Hql.out];omega));have HW7:Hid (Below w2.heap.size w2 w7):=Lib.hid (Below.grown (((hW.out.trans (hBx.out.mono hs2))).alloc (by omega) _) hgrow7 (by simp;omega) (fun j hj=>(HO2.out.1.lt j hj).1))
      go_roundg gh
      case rel=>exact⟨k+1,C++[(wb.heap.size,L)],by go_num,by have:=Hk.out;omega,Lib.hid (by rw[List.map_append,hC.out,Hq.out];rfl),HT7,HW7⟩
      case measure=>omega
     | succ gh2=>
      have hjl:j<n:=by omega
      have hjl':(j:Int)<(n:Int):=by omega
      have hjL:j<L.length:=by have:=Hql.out;omega
      have c1:wr.cell? ⟨bk,j,none⟩=some (.int .i64 (L[j]?.getD 0)):=(hBx.out.cell (p:=⟨bk,j,none⟩) HqO.out.lt).trans ((HqO.out.cell j).trans (kh L j hjL));have c2:=(hOx.out.cell j).trans (kh _ j (by rw[Wy L j (by omega)];omega));have f2:=hOx.out.free j;have hbl:=HqO.out.lt;have hs3:=hBx.out.size;have Hs:=Lib.hid (Wz L j hjL);have HO3:Hid (∀x,L[j]?.getD 0=x→ja (wr.setCell ⟨wb.heap.size,j,none⟩ (.int .i64 x)) wb.heap.size 3 (jc (xi L (j+1)))):=Lib.hid (fun x hx=>by rw[←Hs.out,hx,←xF];exact hOx.out.put _ _);have Hj:=Lib.hid hj;clear hOx hj Hs;generalize hx:L[j]?.getD 0=x at *;have HO4:=Lib.hid (HO3.out x rfl);have HB4:=Lib.hid (hBx.out.setCell (p:=⟨wb.heap.size,j,none⟩) (Nat.le_refl _) (.int .i64 x));clear HO3 hx;generalize (xi L j)[j]?.getD 0=y at *
      go_wp2
      go_roundg gh2
      case rel=>exact⟨j+1,by go_num,by have:=Hj.out;omega,HO4,HB4⟩
      case measure=>omega
 ·have HM:=Lib.hid hM
  have HP:=Lib.hid hp;have HB1:=Lib.hid hB1;clear hM hp hB1
  go_wp2
  go_ret2;exact⟨HB1.out,.inr (.inl ⟨HM.out,HP.out,rfl⟩)⟩
 ·have HM:=Lib.hid hM
  have HB1:=Lib.hid hB1
  have hb:(kM M != 0)=true:=by simpa using hM
  clear hM hB1
  obtain⟨E,hE⟩:∃E,E=kM M:=⟨_,rfl⟩
  have HE:=Lib.hid hE;rw[←hE] at hb ⊢;clear hE
  go_wp2
  go_ret2;exact⟨HB1.out,.inr (.inr ⟨HM.out,by rw[HE.out];rfl⟩)⟩
end Go.Proofs.YtneafcdfnhnpnaaGreatDoor
namespace Go.Proofs.YtneafcdfnhnpnaaGreatDoor
open Go.RowKit Go.Lib
theorem jE.putN {w:World} {dv:Value} {ws:List Nat} {g i:Nat} {t:TypeId} {cs:List Value} (h:jE w dv (jp ws)) (hO:ja w g t cs) (hc:∀c∈cs,kf c) (u:Value):jE (w.setCell ⟨g,i,none⟩ u) dv (jp ws):=by
 obtain⟨A,c,hv,h4,h5,h7⟩:=h;refine⟨A,c,hv,h4,h5,fun hn=> ?_⟩;obtain⟨b,off,hA,hb,hcell⟩:=h7 hn;refine⟨b,off,hA,by simpa using hb,fun j hj0=> ?_⟩;have hj:=hcell j hj0
 have hne:b≠g:=by
  rintro rfl;rw[hO.cell,List.getElem?_eq_getElem hj0] at hj;have hm:=hc _ (List.mem_of_getElem? hj);obtain⟨y,_,hy⟩:=List.mem_map.1 (List.getElem_mem hj0);exact hm _ _ hy.symm
 rw[World.cell?_setCell_other _ _ _ _ (by intro e;injection e with e1;exact hne e1.symm)];exact hj
theorem Ri.put2 {w:World} {v:Value} {x:Int} {g:Nat} {t:TypeId} {a b a' b':Value} (h:Ri w v x) (hO:ja w g t [a,b]) (ha:kf a) (hb:kf b) (ha':kf a'):
  Ri ((w.setCell ⟨g,0,none⟩ a').setCell ⟨g,1,none⟩ b') v x:=by
 obtain⟨dv,ws,h1,h2,h3,h4,h5⟩:=h;have k1:=h5.putN (i:=0) hO (by simp only[List.mem_cons,List.not_mem_nil,or_false];rintro c (rfl | rfl) <;> assumption) a';have hO1:=hO.put 0 a';exact⟨dv,ws,h1,h2,h3,h4,k1.putN (i:=1) hO1 (by simp only[List.set,List.mem_cons,List.not_mem_nil,or_false];rintro c (rfl | rfl) <;> assumption) b'⟩
theorem ja.two {w:World} {g:Nat} {t:TypeId} {a b:Value} (h:ja w g t [a,b]):
  w.cell? ⟨g,0,none⟩=some a∧w.cell? ⟨g,1,none⟩=some b∧w.frozen? ⟨g,0,none⟩=false∧w.frozen? ⟨g,1,none⟩=false:=
 ⟨h.cell 0,h.cell 1,h.free 0,h.free 1⟩
theorem ja.set2 {w:World} {g:Nat} {t:TypeId} {a b a' b':Value} (h:ja w g t [a,b]):ja ((w.setCell ⟨g,0,none⟩ a').setCell ⟨g,1,none⟩ b') g t [a',b']:=(h.put 0 a').put 1 b'
theorem Ri.open_ {w:World} {v:Value} {x:Int} (h:Ri w v x):∃A n c,v = .agg #[.bool (decide (x<0)),.slice A n c]∧n≤c∧n≤140737488355328:=by
 obtain⟨dv,ws,h1,h2,h3,h4,h5⟩:=h;obtain⟨A,c,rfl,hc1,hc2⟩:=h5.form;exact⟨A,_,c,h1,hc1,hc2⟩
def JV (N m:Nat) (ws:List Nat):Prop:=jb ws+B9^ws.length*m=N∧jG ws
theorem JV.step {N m:Nat} {ws:List Nat} (h:JV N m ws):JV N (m/1000000000) (ws++[m%1000000000]):=by
 obtain⟨h1,h2⟩:=h;refine⟨?_,J0.2 ⟨h2,Jp.2 (Nat.mod_lt _ (by decide))⟩⟩;rw[zV,List.length_append,List.length_singleton,Nat.pow_succ,Nat.mul_assoc,Nat.add_assoc,←Nat.mul_add,Nat.mod_add_div,h1]
theorem JV.len {N m:Nat} {ws:List Nat} (h:JV N m ws) (hm:0<m) (hN:N<1000000000000000000000000000):ws.length<3:=by
 rcases Nat.lt_or_ge ws.length 3 with h1 | h1
 ·exact h1
 ·have h2:B9^3≤B9^ws.length:=Nat.pow_le_pow_right (by decide) h1
  have h3:B9^ws.length*1≤B9^ws.length*m:=Nat.mul_le_mul_left _ hm;have h4:=h.1
  have h5:B9^3=1000000000000000000000000000:=by decide
  omega
def Mb (N base:Nat) (g:Nat) (v:Value) (w wr:World):Prop:=∃ws:List Nat,JV N g ws∧ws.length≤3∧wr.ownsRow (base+1) 3 1 v ws.length (jp ws)∧ja wr base 127 [.bool false,.slice none 0 0]∧Below w.heap.size w wr
theorem Fy (N:Nat) (w:World) (hN:N≤9223372036854775807):
  Calls Tryz.prog 126 #[.int .i64 (N:Int)] w (kN (sg false N) w):=by
 obtain⟨i0,hi,hz0,hz1,hz2⟩:=info_parts yc;have HN:=hid hN;have HNL:Hid (N<1000000000000000000000000000):=hid (by omega)
 have hNI:(N:Int)≤9223372036854775807:=by omega
 clear hN;go_enter Tryz.func126,Tryz.ntmps126
 go_wp2_with fail
 go_loopg [0,3,5] N (fun g u v _ wr=>u = .int .i64 (g:Int)∧(g:Int)≤(N:Int)∧Hid (Mb N w.heap.size g v w wr))
 case atStart=>exact⟨rfl,Int.le_refl _,hid ⟨[],⟨by simp[jb],J1⟩,by decide,World.ownsRow_nil _ _ _ _,ja.make _ _ _,(Below.refl _ _).alloc (Nat.le_refl _) _⟩⟩
 case round=>
  obtain⟨rfl,hgN,hR⟩:=hrel;obtain⟨ws,hI,hl,hO,hOw,hB⟩:=hR.out;clear hR;obtain⟨A7,k7,hvf,hv1,hv2⟩:=j8 hO;have HI:=hid hI;have HO:=hid hO;have HOw:=hid hOw;have HB:=hid hB;clear hI hO hOw hB;subst hvf;by_cases h0:gk=0
  ·subst h0
   have HV:Hid (jb ws=N):=hid (by have:=HI.out.1;omega);have SG:=hid (xj false _ ws wr HI.out.2 (zc HO.out (by omega)));rw[HV.out] at SG
   go_wp2_with fail
   refine SG.out.mono ?_;clear SG;rintro e w2 ⟨rv,rfl,hri,hB2⟩;obtain⟨RA,rn,rc,rfl,hr1,hr2⟩:=hri.open_;generalize hbz:decide (sg false N<0)=bz at *;have HO2:=hid (HOw.out.below hB2 HOw.out.lt);obtain⟨c0,c1,f0,f1⟩:=HO2.out.two;have HRF:=hid (hri.put2 (a':= .bool bz) (b':= .slice RA rn rc) HO2.out (js _) (jq _ _ _) (js _));have HBF:Hid (Below w.heap.size w ((w2.setCell ⟨w.heap.size,0,none⟩ (.bool bz)).setCell ⟨w.heap.size,1,none⟩ (.slice RA rn rc))):=hid (((HB.out.trans (hB2.mono HB.out.size)).setCell (p:=⟨w.heap.size,0,none⟩) (Nat.le_refl _) _).setCell (p:=⟨w.heap.size,1,none⟩) (Nat.le_refl _) _);clear hri hB2 hbz
   go_wp2
   obtain⟨z0,z1,_,_⟩:=(HO2.out.set2 (a':= .bool bz) (b':= .slice RA rn rc)).two;exact bodyPost_ret (v:= .agg #[.bool bz,.slice RA rn rc]) (by simp[results,Tryz.results126,go_sem,z0,z1]) rfl ⟨_,rfl,HRF.out,HBF.out⟩
  ·have hg0:(0:Int)<(gk:Int):=by omega
   have HL:=hid (HI.out.len (by omega) HNL.out);have HS:=hid HI.out.step;have hl3:ws.length<3:=HL.out;have hq:gk/1000000000<gk:=Nat.div_lt_self (by omega) (by decide);have hr9:gk%1000000000<1000000000:=Nat.mod_lt _ (by decide);have hs:=HB.out.size;clear HI
   go_wp2_with (at_builtin;(refine wpList_append_own _ rfl _ _ 50 rfl (w.heap.size+1) 3 i0 (.int .i64 0) 1 8 Tryz.underlying50 hi hz0 hz1 hz2 rfl (by decide) _ _ _ rfl (HO.out.alloc _) ⟨wr.heap.size,0,none⟩ 1 1 [.int .i64 ((gk%1000000000:Nat):Int)] rfl rfl (cell_one_new _ _ _) (fun x hx=>by simp at hx;subst hx;rfl) (by unfold maxLen;omega) (by omega) (by simp;omega) ?_;intro v' w1 hown' hgrow _))
   have HO':Hid (w1.ownsRow (w.heap.size+1) 3 1 v' (ws++[(gk%1000000000)]).length (jp (ws++[(gk%1000000000)]))):=hid (by
    rw[xW,List.length_append,List.length_singleton];exact hown')
   have HOw':Hid (ja w1 w.heap.size 127 [.bool false,.slice none 0 0]):=hid ((HOw.out.alloc _).grown hgrow (fun e=>by have:=(HO.out.lt _ e).1;omega));have HB':=hid (Below.grown (HB.out.alloc hs (.cells #[.int .i64 ((gk%1000000000:Nat):Int)] 3)) hgrow (by simp;omega) (fun j hj=>by have:=(HO.out.lt _ hj).1;omega));have HL':Hid ((ws++[(gk%1000000000)]).length≤3):=hid (by rw[List.length_append,List.length_singleton];omega);clear hown' hgrow
   go_wp2
   go_roundg (gk/1000000000)
   case rel=>exact⟨by go_num,by omega,hid ⟨_,HS.out,HL'.out,HO'.out,HOw'.out,HB'.out⟩⟩
   case measure=>exact hq
theorem Fx (N:Nat) (w:World) (hN0:0<N) (hN:N≤9223372036854775808):
  Calls Tryz.prog 126 #[.int .i64 (-(N:Int))] w (kN (sg true N) w):=by
 obtain⟨i0,hi,hz0,hz1,hz2⟩:=info_parts yc;have HN:=hid hN;have HNL:Hid (N<1000000000000000000000000000):=hid (by omega)
 have hNI:(N:Int)≤9223372036854775808:=by omega
 have hN1:(0:Int)<N:=by omega
 clear hN0;clear hN;go_enter Tryz.func126,Tryz.ntmps126
 go_wp2_with fail
 go_loopg [0,3,5] N (fun g u v _ wr=>u = .int .i64 (-(g:Int))∧(g:Int)≤(N:Int)∧Hid (Mb N w.heap.size g v w wr))
 case atStart=>exact⟨rfl,Int.le_refl _,hid ⟨[],⟨by simp[jb],J1⟩,by decide,World.ownsRow_nil _ _ _ _,ja.make _ _ _,(Below.refl _ _).alloc (Nat.le_refl _) _⟩⟩
 case round=>
  obtain⟨rfl,hgN,hR⟩:=hrel;obtain⟨ws,hI,hl,hO,hOw,hB⟩:=hR.out;clear hR;obtain⟨A7,k7,hvf,hv1,hv2⟩:=j8 hO;have HI:=hid hI;have HO:=hid hO;have HOw:=hid hOw;have HB:=hid hB;clear hI hO hOw hB;subst hvf;by_cases h0:gk=0
  ·subst h0
   have HV:Hid (jb ws=N):=hid (by have:=HI.out.1;omega);have SG:=hid (xj true _ ws wr HI.out.2 (zc HO.out (by omega)));rw[HV.out] at SG
   go_wp2_with fail
   rw[show decide (0<N)=true from decide_eq_true (by omega)];refine SG.out.mono ?_;clear SG;rintro e w2 ⟨rv,rfl,hri,hB2⟩;obtain⟨RA,rn,rc,rfl,hr1,hr2⟩:=hri.open_;generalize hbz:decide (sg true N<0)=bz at *;have HO2:=hid (HOw.out.below hB2 HOw.out.lt);obtain⟨c0,c1,f0,f1⟩:=HO2.out.two;have HRF:=hid (hri.put2 (a':= .bool bz) (b':= .slice RA rn rc) HO2.out (js _) (jq _ _ _) (js _));have HBF:Hid (Below w.heap.size w ((w2.setCell ⟨w.heap.size,0,none⟩ (.bool bz)).setCell ⟨w.heap.size,1,none⟩ (.slice RA rn rc))):=hid (((HB.out.trans (hB2.mono HB.out.size)).setCell (p:=⟨w.heap.size,0,none⟩) (Nat.le_refl _) _).setCell (p:=⟨w.heap.size,1,none⟩) (Nat.le_refl _) _);clear hri hB2 hbz
   go_wp2
   obtain⟨z0,z1,_,_⟩:=(HO2.out.set2 (a':= .bool bz) (b':= .slice RA rn rc)).two;exact bodyPost_ret (v:= .agg #[.bool bz,.slice RA rn rc]) (by simp[results,Tryz.results126,go_sem,z0,z1]) rfl ⟨_,rfl,HRF.out,HBF.out⟩
  ·have hg0:(0:Int)<(gk:Int):=by omega
   have HL:=hid (HI.out.len (by omega) HNL.out);have HS:=hid HI.out.step;have hl3:ws.length<3:=HL.out;have hq:gk/1000000000<gk:=Nat.div_lt_self (by omega) (by decide);have hr9:gk%1000000000<1000000000:=Nat.mod_lt _ (by decide);have hs:=HB.out.size
   have e1:(-(gk:Int)).tmod 1000000000 = -((gk%1000000000:Nat):Int):=by rw[Int.neg_tmod];congr 1
   have e2:(-(gk:Int)).tdiv 1000000000 = -((gk/1000000000:Nat):Int):=by rw[Int.neg_tdiv];congr 1
   generalize gk%1000000000=r at *;generalize gk/1000000000=q at *;rcases Nat.eq_zero_or_pos r with hr0 | hr0
   ·subst hr0
    have e3:(-(gk:Int)).tmod 1000000000=0:=by rw[e1];rfl
    clear e1;clear HI
    go_wp2_with (at_builtin;(refine wpList_append_own _ rfl _ _ 50 rfl (w.heap.size+1) 3 i0 (.int .i64 0) 1 8 Tryz.underlying50 hi hz0 hz1 hz2 rfl (by decide) _ _ _ rfl (HO.out.alloc _) ⟨wr.heap.size,0,none⟩ 1 1 [.int .i64 0] rfl rfl (cell_one_new _ _ _) (fun x hx=>by simp at hx;subst hx;rfl) (by unfold maxLen;omega) (by omega) (by simp;omega) ?_;intro v' w1 hown' hgrow _))
    have HO':Hid (w1.ownsRow (w.heap.size+1) 3 1 v' (ws++[0]).length (jp (ws++[0]))):=hid (by
     rw[xW,List.length_append,List.length_singleton];exact hown')
    have HOw':Hid (ja w1 w.heap.size 127 [.bool false,.slice none 0 0]):=hid ((HOw.out.alloc _).grown hgrow (fun e=>by have:=(HO.out.lt _ e).1;omega));have HB':=hid (Below.grown (HB.out.alloc hs (.cells #[.int .i64 0] 3)) hgrow (by simp;omega) (fun j hj=>by have:=(HO.out.lt _ hj).1;omega));have HL':Hid ((ws++[0]).length≤3):=hid (by rw[List.length_append,List.length_singleton];omega);clear hown' hgrow
    go_wp2
    go_roundg q
    case rel=>exact⟨by go_num,by omega,hid ⟨_,HS.out,HL'.out,HO'.out,HOw'.out,HB'.out⟩⟩
    case measure=>exact hq
   ·have hr1:(0:Int)<(r:Int):=by omega
    clear HI
    go_wp2_with (at_builtin;(refine wpList_append_own _ rfl _ _ 50 rfl (w.heap.size+1) 3 i0 (.int .i64 0) 1 8 Tryz.underlying50 hi hz0 hz1 hz2 rfl (by decide) _ _ _ rfl (HO.out.alloc _) ⟨wr.heap.size,0,none⟩ 1 1 [.int .i64 (r:Int)] rfl rfl (cell_one_new _ _ _) (fun x hx=>by simp at hx;subst hx;rfl) (by unfold maxLen;omega) (by omega) (by simp;omega) ?_;intro v' w1 hown' hgrow _))
    have HO':Hid (w1.ownsRow (w.heap.size+1) 3 1 v' (ws++[r]).length (jp (ws++[r]))):=hid (by
     rw[xW,List.length_append,List.length_singleton];exact hown')
    have HOw':Hid (ja w1 w.heap.size 127 [.bool false,.slice none 0 0]):=hid ((HOw.out.alloc _).grown hgrow (fun e=>by have:=(HO.out.lt _ e).1;omega));have HB':=hid (Below.grown (HB.out.alloc hs (.cells #[.int .i64 (r:Int)] 3)) hgrow (by simp;omega) (fun j hj=>by have:=(HO.out.lt _ hj).1;omega));have HL':Hid ((ws++[r]).length≤3):=hid (by rw[List.length_append,List.length_singleton];omega);clear hown' hgrow
    go_wp2
    go_roundg q
    case rel=>exact⟨by go_num,by omega,hid ⟨_,HS.out,HL'.out,HO'.out,HOw'.out,HB'.out⟩⟩
    case measure=>exact hq
theorem Ha (x:Int) (w:World) (h: -9223372036854775808≤x∧x≤9223372036854775807):
  Calls Tryz.prog 126 #[.int .i64 x] w (kN x w):=by
 by_cases hx:x<0
 ·have e:x = -(x.natAbs:Int):=by omega
  have h2:=Fx x.natAbs w (by omega) (by omega)
  have e2:sg true x.natAbs=x:=by unfold sg;rw[if_pos rfl];omega
  rw[e2,←e] at h2;exact h2
 ·have e:x=(x.natAbs:Int):=by omega
  have h2:=Fy x.natAbs w (by omega)
  have e2:sg false x.natAbs=x:=by unfold sg;rw[if_neg (by decide)];omega
  rw[e2,←e] at h2;exact h2
def xe (x:Int):List UInt8:=(if x<0 then [45] else [])++decDigits x.natAbs
theorem x9 (ws:List Nat) (k:Nat) (hk:k<ws.length):jb (ws.drop k)=ws[k]?.getD 0+B9*jb (ws.drop (k+1)):=by
 rw[List.drop_eq_getElem_cons hk,List.getElem?_eq_getElem hk];rfl
theorem xS (ws:List Nat) (k:Nat) (hk:k≤ws.length):jb ws=jb (ws.take k)+B9^k*jb (ws.drop k):=by
 conv=>lhs;rw[←List.take_append_drop k ws]
 rw[J2,List.length_take,Nat.min_eq_left hk]
theorem U3 {ws:List Nat} (hn:ki ws) (hok:jG ws) {k:Nat} (hk:k<ws.length):0<jb (ws.drop k):=by
 rcases Nat.eq_zero_or_pos (jb (ws.drop k)) with h | h
 ·have h1:=JZ hn (by intro e;subst e;simp at hk)
  have h2:=xS ws k (by omega);rw[h,Nat.mul_zero] at h2;have h3:=qz (zU hok k);rw[List.length_take,Nat.min_eq_left (by omega)] at h3;have h4:B9^k≤B9^(ws.length-1):=Nat.pow_le_pow_right (by decide) (by omega);omega
 ·exact h
def yz (ws:List Nat) (k:Nat) (acc:List UInt8):Prop:=acc=decDigits (jb (ws.drop k))
theorem yz.step {ws:List Nat} {k:Nat} {acc:List UInt8} (hn:ki ws) (hok:jG ws) (hk:k+1<ws.length) (h:yz ws (k+1) acc):yz ws k (acc++qH 9 (ws[k]?.getD 0)):=by
 unfold yz at h ⊢;have h1:=U3 hn hok hk;have h2:=kI hok k;rw[x9 ws k (by omega),Nat.add_comm,Nat.mul_comm,h];exact(UP 9 _ _ h1 h2).symm
theorem yz.len {ws:List Nat} {k:Nat} {acc:List UInt8} (hok:jG ws) (h:yz ws k acc):acc.length≤9*ws.length+1:=by
 unfold yz at h;rw[h,decDigits_length];refine zC _ _ ?_;have h1:=qz (ws:=ws.drop k) (fun x hx=>hok x (List.mem_of_mem_drop hx));have h2:B9^(ws.drop k).length≤B9^ws.length:=Nat.pow_le_pow_right (by decide) (by rw[List.length_drop];omega)
 have h3:B9^ws.length=10^(9*ws.length):=by rw[Nat.pow_mul]
 have h4:10^(9*ws.length)≤10^(9*ws.length+1):=Nat.pow_le_pow_right (by decide) (by omega);omega
theorem Jf (v:Value) (x:Int) (w:World) (h:Ri w v x):
  Calls Tryz.prog 182 #[v] w (kn (xe x) w):=by
 obtain⟨dv,ws,rfl,hv,hok,hn,hs⟩:=h;obtain⟨A,c,rfl,hc1,hc2⟩:=hs.form;rw[j9] at hc1 hc2 hs ⊢;have hb:Below w.heap.size w (w.alloc (.cells #[.bool (decide (x<0)),.slice A ws.length c] 127)):=(Below.refl _ _).alloc (Nat.le_refl _) _;have HB0:=hid hb;have HOw:Hid (ja (w.alloc (.cells #[.bool (decide (x<0)),.slice A ws.length c] 127)) w.heap.size 127 [.bool (decide (x<0)),.slice A ws.length c]):=hid (ja.make _ _ _);have HN:=hid hn;have HOK:=hid hok;have HV:=hid hv;clear hb hn hok hv;by_cases h0:ws=[]
 ·subst h0
  have hx:x=0:=by have:=HV.out;simp[jb] at this;omega
  have HE:Hid (xe x=[48]):=hid (by rw[hx];unfold xe;rw[if_neg (by decide)];exact decDigits_one (by decide));clear hx hs;generalize decide (x<0)=bx at *;go_enter Tryz.func182,Tryz.ntmps182
  go_wp2
  go_ret;exact⟨by rw[HE.out];rfl,HB0.out⟩
 ·obtain⟨m,hm⟩:∃m,ws.length=m+1:=⟨ws.length-1,by have:=List.length_pos_iff.2 h0;omega⟩
  clear h0;obtain⟨b,off,rfl,hblt,hcell⟩:=hs.at_ (k:=m) (by rw[j9];omega);have HC:Hid (∀j,j<ws.length→w.cell? ⟨b,off+j,none⟩=some (.int .i64 ((ws[j]?.getD 0:Nat):Int))):=hid (fun j hj=>by rw[hcell j (by rw[j9];omega),qa ws j hj]);clear hcell hs;generalize hbx:decide (x<0)=bx at *;have HX:=hid hbx;clear hbx;have ck:=HC.out m (by omega)
  have hmb:(m:Int)≤140737488355328:=by omega
  have HT0:Hid (yz ws m (decDigits (ws[m]?.getD 0))):=hid (by
   unfold yz
   rw[x9 ws m (by omega),List.drop_of_length_le (by omega)];simp[jb])
  have D1:=hid (fun w=>Yy (ws[m]?.getD 0) w (by have:=kI HOK.out m;unfold B9 at this;omega));have HL1:Hid ((decDigits (ws[m]?.getD 0)).length≤9*ws.length+1):=hid (HT0.out.len HOK.out);generalize ws[m]?.getD 0=top at *;clear hc2;rw[hm] at hc1 HOw HB0 HL1 ⊢;have HM:=hid hm;clear hm;go_enter Tryz.func182,Tryz.ntmps182
  go_wp2_with fail
  refine(D1.out _).mono ?_;clear D1;rintro e w1 ⟨rfl,hB1⟩;have HO1:=hid (HOw.out.below hB1 HOw.out.lt);have HB1:=hid (HB0.out.trans (hB1.mono HB0.out.size));obtain⟨c0,c1,f0,f1⟩:=HO1.out.two;clear hB1 ck
  go_wp2_with fail
  go_loopg [3,4] m (fun g s i wr=>∃acc:List UInt8,s = .string ⟨acc.toArray⟩∧i = .int .i64 ((g:Int)-1)∧(g:Int)≤(m:Int)∧Hid (yz ws g acc)∧Hid (ja wr w.heap.size 127 [.bool bx,.slice (some ⟨b,off,none⟩) (m+1) c])∧Hid (Below w.heap.size w wr))
  case atStart=>exact⟨_,rfl,by go_num,Int.le_refl _,HT0,HO1,HB1⟩
  case round=>
   obtain⟨acc,rfl,rfl,hgm,hT,hO,hB⟩:=hrel;clear c0 c1 f0 f1;obtain⟨c0,c1,f0,f1⟩:=hO.out.two;have hal:=hid (hT.out.len HOK.out)
   have hal2:acc.length≤2266637395197953:=by have h1:=hal.out;have h2:=HM.out;omega
   cases gk with
   | zero=>
    have hin:¬((0:Int)≤((0:Nat):Int)-1):=by omega
    have HE:Hid (acc=decDigits x.natAbs):=hid (by have:=hT.out;unfold yz at this;rw[this,List.drop_zero,HV.out]);clear hT hal;have HBT:=hid hB.out
    cases bx with
    | true=>
     have HE2:Hid (xe x=45::acc):=hid (by unfold xe;rw[if_pos (of_decide_eq_true HX.out),HE.out];rfl)
     go_wp2
     go_ret;exact⟨by rw[HE2.out,←KH];rfl,HBT.out⟩
    | false=>
     have HE2:Hid (xe x=acc):=hid (by unfold xe;rw[if_neg (of_decide_eq_false HX.out),HE.out];rfl)
     go_wp2
     go_ret;exact⟨by rw[HE2.out];rfl,HBT.out⟩
   | succ gh=>
    have hgm2:gh<m:=by omega
    have ck:=(hB.out.cell (p:=⟨b,off+gh,none⟩) hblt).trans (HC.out gh (by have:=HM.out;omega));have HS:=hid (hT.out.step HN.out HOK.out (by have:=HM.out;omega));have D9:=hid (fun w=>Sn (ws[gh]?.getD 0) w (kI HOK.out gh));have HPL:(qH 9 (ws[gh]?.getD 0)).length=9:=DQ _ _
    have hin:(0:Int)≤((gh+1:Nat):Int)-1:=by omega
    have hbs:=hB.out.size
    have hbl:b<wr.heap.size:=by omega
    clear hT;generalize ws[gh]?.getD 0=dg at *
    go_wp2_with fail
    refine(D9.out _).mono ?_;rintro e w2 ⟨rfl,hB2⟩;have HO3:=hid (hO.out.below hB2 hO.out.lt);have HB3:=hid (hB.out.trans (hB2.mono hbs));clear hB2 c0 c1 f0 f1
    go_wp2
    go_roundg gh
    case rel=>exact⟨_,by rw[ByteArray.mk_append_mk],by go_num,by omega,HS,HO3,HB3⟩
    case measure=>omega
theorem MG (x:Int) (w:World) (h: -9223372036854775808≤x∧x≤9223372036854775807):
  Calls Tryz.prog 142 #[.int .i64 x] w (kn (xe x) w):=by
 have WC:=hid (Ha x w h);clear h;go_enter Tryz.func142,Tryz.ntmps142
 go_wp2_with fail
 refine WC.out.mono ?_;rintro e w1 ⟨v,rfl,hr,hB⟩;have HR:=hid (Jf v x w1 hr);obtain⟨RA,rn,rc,rfl,hr1,hr2⟩:=hr.open_;clear hr
 go_wp2_with fail
 refine HR.out.mono ?_;rintro e w2 ⟨rfl,hB2⟩
 go_wp2
 go_ret;exact⟨rfl,hB.trans (hB2.mono hB.size)⟩
theorem VD (x:Int):xe x=jg (x:Rat):=by
 unfold xe jg;rw[if_pos (show (x:Rat).den=1 from rfl),List.append_nil];rfl
def Jd (neg:Bool) (n d:Nat) (w:World) (e:Ending) (w':World):Prop:=e = .returned (.tuple #[.int .i64 (sg neg n),.int .i64 d,.bool true])∧w=w'
theorem kw {s:ByteArray} {l:List UInt8} (h:s.data.toList=l):s.size=l.length:=by rw[←h];simp
theorem xD {s:ByteArray} {l:List UInt8} (h:s.data.toList=l) (a b:Nat):(s.extract a b).data.toList=(l.take b).drop a:=by
 rw[←h];simp[List.drop_take]
theorem KP {s:ByteArray} {c:UInt8} {l:List UInt8} (h:s.data.toList=c::l) (h0:0<s.size):s[0]=c:=by
 have:=xm s 0 h0;rw[h] at this;simpa using this.symm
theorem Zf {c:UInt8} (h:48≤c.toNat∧c.toNat≤57):((c.toNat:Int)==45)=false:=by simpa using (by omega:¬(c.toNat:Int)=45)
theorem QT {n:Nat} (h:n<1000000000):(decDigits n).length≤9:=by rw[decDigits_length];exact zC 8 n h
theorem yZ (n:Nat):0<(decDigits n).length:=List.length_pos_iff.2 (Sm n)
theorem Ux {t:ByteArray} {n d:Nat} (ht:t.data.toList=decDigits n++47::decDigits d) (hn:n<1000000000) (hd:d<1000000000):
  ∃k:Nat,(0:Int)<k∧(k:Int)≤9∧(k:Int)+1≤(t.size:Int)∧(k:Int)<(t.size:Int)∧(t.size:Int)-k≤10∧t.size≤20∧(∀w,Calls Tryz.prog 103 #[.string t] w (xC k w)) ∧
   (∀w,Calls Tryz.prog 180 #[.string (t.extract 0 k)] w (xC n w))∧(∀w,Calls Tryz.prog 180 #[.string (t.extract (k+1) t.size)] w (xC d w)):=by
 have hz:=kw ht;have hl:=QT hn;have hl0:=yZ n;have hm:=QT hd;rw[List.length_append,List.length_cons] at hz;refine⟨(decDigits n).length,by omega,by omega,by omega,by omega,by omega,by omega,fun w=> ?_,fun w=> ?_,fun w=> ?_⟩
 ·have h:=zi t w (by omega)
  rw[ht,XI (qw n)] at h;exact h
 ·have e:(t.extract 0 (decDigits n).length).data.toList=decDigits n:=by rw[xD ht];simp
  have h:=Qq (t.extract 0 (decDigits n).length) w (by rw[kw e];omega) (by rw[e];exact qw n);rw[e,y4] at h;exact h
 ·have e:(t.extract ((decDigits n).length+1) t.size).data.toList=decDigits d:=by
   rw[xD ht,List.take_of_length_le (by rw[List.length_append,List.length_cons];omega),List.drop_append];simp
  have h:=Qq (t.extract ((decDigits n).length+1) t.size) w (by rw[kw e];omega) (by rw[e];exact qw d);rw[e,y4] at h;exact h
theorem Hw {t:ByteArray} {n:Nat} (ht:t.data.toList=decDigits n) (hn:n<1000000000):
  (0:Int)<t.size∧(t.size:Int)≤9∧(∀w,Calls Tryz.prog 103 #[.string t] w (xC t.size w))∧(∀w,Calls Tryz.prog 180 #[.string t] w (xC n w)):=by
 have hz:=kw ht;have hl:=QT hn;have hl0:=yZ n;refine⟨by omega,by omega,fun w=> ?_,fun w=> ?_⟩
 ·have h:=zi t w (by omega)
  rw[ht,Qm (qw n),←hz] at h;exact h
 ·have h:=Qq t w (by omega) (by rw[ht];exact qw n)
  rw[ht,y4] at h;exact h
theorem Vq {s:ByteArray} {n:Nat} {r:List UInt8} (hs:s.data.toList=decDigits n++r):∃h:0<s.size,(((s[0]'h).toNat:Int)==45)=false:=by
 have hz:=kw hs;have hl0:=yZ n;rw[List.length_append] at hz
 have h0:0<s.size:=by omega
 have hge:=xm s 0 h0;refine⟨h0,Zf (qw n _ ?_)⟩;rw[hs,List.getElem?_append_left hl0] at hge;exact List.mem_of_getElem? hge
theorem AA (s:ByteArray) (n:Nat) (w:World) (hs:s.data.toList=decDigits n) (hn:n<1000000000):
  Calls Tryz.prog 116 #[.string s] w (Jd false n 1 w):=by
 have HN:=hid hn;clear hn;have hb:=hs;obtain⟨h0,hc⟩:=Vq (n:=n) (r:=[]) (by rw[hs];simp);obtain⟨k0,k9,k5,k6⟩:=Hw hb HN.out;have SL:=hid k5;have V1:=hid k6;clear k5 k6
 have hz20:(s.size:Int)≤20:=by omega
 have hz0:(0:Int)<(s.size:Int):=by omega
 clear hs hb
 have HNL:(n:Int)≤4000000000000000000:=by have:=HN.out;omega
 go_enter Tryz.func116,Tryz.ntmps116
 go_wp2_with fail
 refine(SL.out _).mono ?_;rintro e w1 ⟨rfl,rfl⟩
 go_wp2_with fail
 refine(V1.out _).mono ?_;rintro e w1 ⟨rfl,rfl⟩
 go_wp2
 go_ret3;exact⟨rfl,rfl⟩
theorem Az (s:ByteArray) (n d:Nat) (w:World) (hs:s.data.toList=decDigits n++47::decDigits d) (hn:n<1000000000) (hd:d<1000000000):
  Calls Tryz.prog 116 #[.string s] w (Jd false n d w):=by
 have HN:=hid hn;clear hn;have HD:=hid hd;clear hd;have hb:=hs;obtain⟨h0,hc⟩:=Vq (r:=47::decDigits d) (by rw[hs]);obtain⟨k,k0,k9,k1,k2,k3,k4,k5,k6,k7⟩:=Ux hb HN.out HD.out;have SL:=hid k5;have V1:=hid k6;have V2:=hid k7;clear k5 k6 k7
 have hz20:(s.size:Int)≤20:=by omega
 have hz0:(0:Int)<(s.size:Int):=by omega
 clear hs hb
 have HNL:(n:Int)≤4000000000000000000:=by have:=HN.out;omega
 go_enter Tryz.func116,Tryz.ntmps116
 go_wp2_with fail
 refine(SL.out _).mono ?_;rintro e w1 ⟨rfl,rfl⟩
 go_wp2_with fail
 refine(V1.out _).mono ?_;rintro e w1 ⟨rfl,rfl⟩
 go_wp2_with fail
 refine(V2.out _).mono ?_;rintro e w1 ⟨rfl,rfl⟩
 go_wp2
 go_ret3;exact⟨rfl,rfl⟩
theorem Ay (s:ByteArray) (n:Nat) (w:World) (hs:s.data.toList=45::(decDigits n)) (hn:n<1000000000):
  Calls Tryz.prog 116 #[.string s] w (Jd true n 1 w):=by
 have HN:=hid hn;clear hn
 obtain⟨t,ht⟩:∃t,s.extract 1 s.size=t:=⟨_,rfl⟩
 have hb:t.data.toList=decDigits n:=by rw[←ht,xD hs,kw hs,List.take_of_length_le (Nat.le_refl _)];rfl
 have HTE:=hid ht;clear ht
 have hsz:s.size=t.size+1:=by rw[kw hs,kw hb];rfl
 have h0:0<s.size:=by omega
 have hc:(((s[0]).toNat:Int)==45)=true:=by rw[KP hs h0];rfl
 obtain⟨k0,k9,k5,k6⟩:=Hw hb HN.out;have SL:=hid k5;have V1:=hid k6;clear k5 k6
 have hz20:(s.size:Int)≤20:=by omega
 have hz0:(0:Int)<(s.size:Int):=by omega
 have hz1:(1:Int)≤(s.size:Int):=by omega
 clear hsz;clear hs hb
 have HNL:(n:Int)≤4000000000000000000:=by have:=HN.out;omega
 go_enter Tryz.func116,Tryz.ntmps116
 go_wp2_with fail
 rw[HTE.out];clear HTE;refine(SL.out _).mono ?_;rintro e w1 ⟨rfl,rfl⟩
 go_wp2_with fail
 refine(V1.out _).mono ?_;rintro e w1 ⟨rfl,rfl⟩
 go_wp2
 go_ret3;exact⟨rfl,rfl⟩
theorem Ax (s:ByteArray) (n d:Nat) (w:World) (hs:s.data.toList=45::(decDigits n++47::decDigits d)) (hn:n<1000000000) (hd:d<1000000000):
  Calls Tryz.prog 116 #[.string s] w (Jd true n d w):=by
 have HN:=hid hn;clear hn;have HD:=hid hd;clear hd
 obtain⟨t,ht⟩:∃t,s.extract 1 s.size=t:=⟨_,rfl⟩
 have hb:t.data.toList=decDigits n++47::decDigits d:=by rw[←ht,xD hs,kw hs,List.take_of_length_le (Nat.le_refl _)];rfl
 have HTE:=hid ht;clear ht
 have hsz:s.size=t.size+1:=by rw[kw hs,kw hb];rfl
 have h0:0<s.size:=by omega
 have hc:(((s[0]).toNat:Int)==45)=true:=by rw[KP hs h0];rfl
 obtain⟨k,k0,k9,k1,k2,k3,k4,k5,k6,k7⟩:=Ux hb HN.out HD.out;have SL:=hid k5;have V1:=hid k6;have V2:=hid k7;clear k5 k6 k7
 have hz20:(s.size:Int)≤20:=by omega
 have hz0:(0:Int)<(s.size:Int):=by omega
 have hz1:(1:Int)≤(s.size:Int):=by omega
 clear hsz;clear hs hb
 have HNL:(n:Int)≤4000000000000000000:=by have:=HN.out;omega
 go_enter Tryz.func116,Tryz.ntmps116
 go_wp2_with fail
 rw[HTE.out];clear HTE;refine(SL.out _).mono ?_;rintro e w1 ⟨rfl,rfl⟩
 go_wp2_with fail
 refine(V1.out _).mono ?_;rintro e w1 ⟨rfl,rfl⟩
 go_wp2_with fail
 refine(V2.out _).mono ?_;rintro e w1 ⟨rfl,rfl⟩
 go_wp2
 go_ret3;exact⟨rfl,rfl⟩
def qm (q:Rat):Prop:=q.num.natAbs<1000000000∧q.den<1000000000
theorem Qe (q:Rat) (w:World) (h:qm q):
  Calls Tryz.prog 116 #[.string ⟨(jg q).toArray⟩] w (fun e w'=>e = .returned (.tuple #[.int .i64 q.num,.int .i64 (q.den:Int),.bool true])∧w=w'):=by
 obtain⟨h1,h2⟩:=h;by_cases hn:q.num<0
 ·have e:sg true q.num.natAbs=q.num:=by unfold sg;rw[if_pos rfl];omega
  by_cases hd:q.den=1
  ·have h:=Ay ⟨(jg q).toArray⟩ q.num.natAbs w (by unfold jg;rw[if_pos hn,if_pos hd];simp) h1
   unfold Jd at h;rw[e] at h;rw[hd];exact h
  ·have h:=Ax ⟨(jg q).toArray⟩ q.num.natAbs q.den w (by unfold jg;rw[if_pos hn,if_neg hd];simp) h1 h2
   unfold Jd at h;rw[e] at h;exact h
 ·have e:sg false q.num.natAbs=q.num:=by unfold sg;rw[if_neg (by decide)];omega
  by_cases hd:q.den=1
  ·have h:=AA ⟨(jg q).toArray⟩ q.num.natAbs w (by unfold jg;rw[if_neg hn,if_pos hd];simp) h1
   unfold Jd at h;rw[e] at h;rw[hd];exact h
  ·have h:=Az ⟨(jg q).toArray⟩ q.num.natAbs q.den w (by unfold jg;rw[if_neg hn,if_neg hd];simp) h1 h2
   unfold Jd at h;rw[e] at h;exact h
