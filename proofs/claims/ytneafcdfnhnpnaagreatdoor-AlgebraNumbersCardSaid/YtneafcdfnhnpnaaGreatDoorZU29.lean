/- Contracts: the library's slices over rational numbers: Grow, Concat of a row and one number. -/
import Derived.Test.YtneafcdfnhnpnaaGreatDoorZU13
import Derived.Lib.AppendZeros
import Derived.Test.YtneafcdfnhnpnaaGreatDoorZU14
import Derived.Test.YtneafcdfnhnpnaaGreatDoorZU15
import Derived.Test.YtneafcdfnhnpnaaGreatDoorZU28
import Derived.Deep.RegionWith
import Derived.Deep.DrawnRows
import Derived.Test.YtneafcdfnhnpnaaGreatDoorZU12
import Derived.Maps.AppendAt
set_option maxRecDepth 100000
set_option maxHeartbeats 8000000
namespace Go.Proofs.YtneafcdfnhnpnaaGreatDoor
open Go.RowKit Go.Lib
theorem ecells_take (es:List El) (n:Nat):ecells (es.take n)=(ecells es).take (n*3):=by
 induction es generalizing n with
 | nil=>simp[ecells]
 | cons e t ih=>
  cases n with
  | zero=>simp[ecells]
  | succ n=>
   rw[List.take_succ_cons,show (n+1)*3=n*3+1+1+1 by omega]
   simp only[ecells,List.take_succ_cons,ih]
theorem ecells_splice (A B:List El) {c:Nat} (h:A.length+B.length≤c):
  (ecells (A++List.replicate (c-A.length) zeroEl)).take (A.length*3)++ecells B++(ecells (A++List.replicate (c-A.length) zeroEl)).drop (A.length*3+(ecells B).length)=ecells ((A++B)++List.replicate (c-(A++B).length) zeroEl):=by
 rw[ecells_append,List.take_left' (by rw[ecells_length])]
 have hz:List.replicate (c-A.length) zeroEl=List.replicate B.length zeroEl++List.replicate (c-(A++B).length) zeroEl:=by
  rw[List.replicate_append_replicate];congr 1;rw[List.length_append];omega
 rw[hz,ecells_append,←List.append_assoc (ecells A),List.drop_left' (by rw[List.length_append,ecells_length,ecells_length,ecells_length,List.length_replicate]),ecells_append,ecells_append]
theorem zeroCells_rat (n:Nat):Builtin.zeroCells ratZero.cells n=(ecells (List.replicate n zeroEl)).toArray:=by
 apply Array.toList_inj.1
 rw[←made_three]
 rfl
theorem growQ_c (n:Nat) (w:World) (h0:0<n) (hn:n≤1000001):
  Calls Tryz.prog 237 #[.slice none 0 0,.int .i64 n] w fun e w'=>∃cap,e = .returned (.slice (some ⟨w.heap.size,0,none⟩) 0 cap)∧n≤cap∧cap≤maxLen∧Own w' w.heap.size 122 (ecells (List.replicate cap zeroEl))∧Below w.heap.size w w':=by
 obtain⟨i,hi,hz,hs,hb⟩:=info_parts info_rational
 have hrun:=fun ty=>run_append_nil_zeros (P:=Tryz.prog) w 167 3 ty 122 i ratZero .i64 .i64 Tryz.underlying167 Tryz.underlying3 hi hz n h0 (by omega) (by omega) (by rw[hb];omega)
 have hge:=grownCap_ge w n 0 122
 have hle:=grownCap_le_maxLen w n 0 122 (by unfold maxLen;omega)
 generalize grownCap w n 0 122=cap at *
 have hO:=Own.make w.drew 122 (ecells (List.replicate cap zeroEl))
 rw[show w.drew.heap.size=w.heap.size from rfl] at hO
 have hc:Builtin.zeroCells ratZero.cells n++Builtin.zeroCells ratZero.cells (cap-n)=(ecells (List.replicate cap zeroEl)).toArray:=by
  rw[zeroCells_rat,zeroCells_rat,List.append_toArray,←ecells_append,List.replicate_append_replicate,show n+(cap-n)=cap by omega]
 rw[hc] at hrun
 have Hrun:=hid hrun
 have HO:=hid hO
 clear hrun hc hO hi hz hs hb
 go_enter Tryz.func237,Tryz.ntmps237
 go_wp2_with (at_builtin;(refine Lib.wpList_append_run _ rfl _ _ _ _ rfl _ _ rfl rfl _ _ (Hrun.out _) ?_))
 go_ret
 exact⟨cap,rfl,hge,hle,HO.out,(Below.refl w.heap.size w).drew.alloc (Nat.le_refl _) _⟩
def concPost (Lx:List Rat) (w:World) (e:Ending) (w':World):Prop:=
 ∃g cap es,e = .returned (.slice (some ⟨g,0,none⟩) Lx.length cap)∧w.heap.size≤g∧Lx.length≤cap∧cap≤maxLen∧RowQ w' g es Lx∧Below w.heap.size w w'
theorem concatQ_c (w:World) (bl b1 b2 n c0 c1 c2 o:Nat) (es1 es2:List El) (L P:List Rat) (hl:Own w bl 167 [.slice (some ⟨b1,0,none⟩) n c1,.slice (some ⟨b2,o*3,none⟩) 1 c2])
  (h1:RowQ w b1 es1 L) (hn:n=L.length) (hn2:n≤1000000) (_hc0:2≤c0) (h2:RowQ w b2 es2 P) (ho:o<P.length):
  Calls Tryz.prog 207 #[.slice (some ⟨bl,0,none⟩) 2 c0] w (concPost (L++[P[o]?.getD 0]) w):=by
 obtain⟨i,hi,hz,hs,hb⟩:=info_parts info_rational
 have hcl0:=hl.cell 0
 have hcl1:=hl.cell 1
 simp only[List.getElem?_cons_zero,List.getElem?_cons_succ] at hcl0 hcl1
 have hll:=hl.lt
 obtain⟨e,A1,n1,d1,A2,n2,d2,he,hee,hrt,y0,y1,y2,zz0,zz1,zz2⟩:=h2.at_ ho
 clear zz0 zz1 zz2
 obtain⟨e0,ea,eb⟩:=e
 have hea:ea = .slice A1 n1 d1∧eb = .slice A2 n2 d2:=by simpa using hee
 obtain⟨rfl,rfl⟩:=hea
 clear hee
 dsimp only at y0
 obtain⟨x,hx⟩:∃x,x=P[o]?.getD 0:=⟨_,rfl⟩
 rw[←hx] at hrt ⊢
 have hlen1:n≤es1.length:=by rw[hn];exact h1.len
 obtain⟨E1,hE1⟩:∃E1,E1=es1.take n:=⟨_,rfl⟩
 have hE1l:E1.length=n:=by rw[hE1];simp;omega
 have hnews1:∀(W:World),Below w.heap.size w W → ∀j u,(ecells E1)[j]? =some u→W.cell? ((⟨b1,0,none⟩:Addr).add j)=some u:=by
  intro W hB j u hu
  have ea:((⟨b1,0,none⟩:Addr).add j)=⟨b1,j,none⟩:=by
   unfold Addr.add
   split
   ·subst j;rfl
   ·simp
  rw[ea,hB.cell (p:=⟨b1,j,none⟩) h1.own.lt,h1.own.cell j]
  rw[hE1,ecells_take,List.getElem?_take] at hu
  split at hu
  ·exact hu
  ·cases hu
 have hone1:∀u∈ecells E1,u.oneCell'=true:=by
  intro u hu
  have hno:∀a∈E1,∃B1 m1 k1 B2 m2 k2,a.2.1=Value.slice B1 m1 k1∧a.2.2=Value.slice B2 m2 k2:=by
   intro a ha
   rw[hE1] at ha
   obtain⟨j,hj⟩:=List.mem_iff_getElem?.1 ha
   rw[List.getElem?_take] at hj
   split at hj
   ·rename_i hjn
    obtain⟨q,hq⟩:∃q,L[j]? =some q:=⟨L[j]'(by omega),List.getElem?_eq_getElem _⟩
    obtain⟨s,B1,m1,k1,B2,m2,k2,hsh⟩:=(h1.num j a q hj hq).shape
    simp[elV] at hsh
    exact⟨B1,m1,k1,B2,m2,k2,hsh.2.1,hsh.2.2⟩
   ·cases hj
  clear hE1 hE1l hnews1
  induction E1 with
  | nil=>cases hu
  | cons a t ih=>
   obtain⟨B1,m1,k1,B2,m2,k2,h3,h4⟩:=hno a (by simp)
   simp only[ecells,List.mem_cons] at hu
   rcases hu with rfl | rfl | rfl | hu
   ·rfl
   ·rw[h3];rfl
   ·rw[h4];rfl
   ·exact ih hu (fun b hb=>hno b (by simp[hb]))
 have hnews2:∀(W:World),Below w.heap.size w W → ∀j u,(ecells [((e0,.slice A1 n1 d1,.slice A2 n2 d2):El)])[j]? =some u→W.cell? ((⟨b2,o*3,none⟩:Addr).add j)=some u:=by
  intro W hB j u hu
  have hb2:=h2.own.lt
  rcases j with _ | _ | _ | j
  ·simp[ecells] at hu;subst hu;exact(hB.cell (p:=⟨b2,o*3,none⟩) hb2).trans y0
  ·simp[ecells] at hu;subst hu;exact(hB.cell (p:=⟨b2,o*3+1,none⟩) hb2).trans y1
  ·simp[ecells] at hu;subst hu;exact(hB.cell (p:=⟨b2,o*3+2,none⟩) hb2).trans y2
  ·simp[ecells] at hu
 have hfin:∀(W:World) (g cap:Nat),Below w.heap.size w W→Own W g 122 (ecells ((E1++[(e0,.slice A1 n1 d1,.slice A2 n2 d2)])++List.replicate (cap-(n+1)) zeroEl))→RowQ W g ((E1++[(e0,.slice A1 n1 d1,.slice A2 n2 d2)])++List.replicate (cap-(n+1)) zeroEl) (L++[x]):=by
  intro W g cap hB hO
  refine⟨hO,by simp[hE1l];omega,fun a ha=> ?_,fun j a q ha hq=> ?_⟩
  ·simp only[List.mem_append,List.mem_singleton] at ha
   rcases ha with (ha | ha) | ha
   ·exact h1.noi a (by rw[hE1] at ha;exact List.mem_of_mem_take ha)
   ·subst ha;exact⟨noInt_slice _ _ _,noInt_slice _ _ _⟩
   ·rw[List.eq_of_mem_replicate ha];exact⟨noInt_slice _ _ _,noInt_slice _ _ _⟩
  ·have hj:j<(L++[x]).length:=(List.getElem?_eq_some_iff.1 hq).1
   rw[List.length_append,List.length_singleton] at hj
   rw[List.getElem?_append_left (by simp[hE1l];omega)] at ha
   rcases Nat.lt_or_ge j n with hjn | hjn
   ·rw[List.getElem?_append_left (by omega)] at ha
    rw[List.getElem?_append_left (by omega)] at hq
    rw[hE1,List.getElem?_take,if_pos hjn] at ha
    exact(h1.num j a q ha hq).below hB
   ·have:j=n:=by omega
    subst this
    rw[List.getElem?_append_right (by omega),hE1l] at ha
    rw[List.getElem?_append_right (by omega),←hn] at hq
    simp at ha hq
    subst ha hq
    exact hrt.below hB
 have Hfin:=hid hfin
 have Hn1:=hid hnews1
 have Hn2:=hid hnews2
 have Ho1:=hid hone1
 have HE1l:=hid hE1l
 have HnL:Hid ((L++[x]).length=n+1):=hid (by simp[hn])
 have Hs:=hid hs
 have Hi:=hid hi
 have GR:=hid (fun W=>growQ_c (n+1) W (by omega) (by omega))
 clear hfin hnews1 hnews2 hone1 hE1l hE1 hrt he y0 y1 y2 h1 h2 ho hn hlen1 hx hi hz hs hb
 generalize hel:((e0,.slice A1 n1 d1,.slice A2 n2 d2):El)=el at *
 have Hone2:Hid (∀u∈ecells [el],u.oneCell'=true):=hid (by rw[←hel];exact one_el _ _ _ _ _ _ _)
 clear hel
 go_enter Tryz.func207,Tryz.ntmps207
 go_wp2_with fail
 go_loopg [3,11] 2 (fun gh s i wr=>(∃k sz:Nat,i = .int .i64 k∧s = .int .i64 sz∧k+gh=2∧(sz=if k=0 then 0 else if k=1 then n else n+1))∧w=wr)
 case atStart=>exact⟨⟨0,0,rfl,rfl,rfl,rfl⟩,rfl⟩
 case round=>
  obtain⟨⟨k,sz,rfl,rfl,hk,hsz⟩,rfl⟩:=hrel
  rcases gk with _ | _ | _ | gk
  ·obtain rfl:k=2:=by omega
   have hsz2:sz=n+1:=hsz
   subst hsz2
   clear hsz
   have GR2:=hid (GR.out w)
   go_wp2_with (go_at_call 237;refine GR2.out.mono ?_;rintro ee w1 ⟨cap,rfl,hc1,hc2,hO,hB⟩)
   have HO0:Hid (Own w1 w.heap.size 122 (ecells ([]++List.replicate (cap-([]:List El).length) zeroEl))):=hid hO
   have HB:=hid hB
   clear hO hB GR GR2
   unfold maxLen at hc2
   go_loopg [6,27] 2 (fun gh v i wr=>(∃(k:Nat) (E:List El),i = .int .i64 k∧v = .slice (some ⟨w.heap.size,0,none⟩) E.length cap∧k+gh=2∧Hid (E=if k=0 then [] else if k=1 then E1 else E1++[el])∧Hid (Own wr w.heap.size 122 (ecells (E++List.replicate (cap-E.length) zeroEl))))∧Hid (Below w.heap.size w wr))
   case atStart=>exact⟨⟨0,[],rfl,rfl,rfl,hid rfl,HO0⟩,HB⟩
   case round=>
    clear HO0 HB
    obtain⟨⟨k,E,rfl,rfl,hk2,hE,hO⟩,hB⟩:=hrel
    rcases gk with _ | _ | _ | gk
    ·obtain rfl:k=2:=by omega
     have hE2:Hid (E=E1++[el]):=hid hE.out
     have hEl:Hid (E.length=n+1):=hid (by rw[hE2.out,List.length_append,HE1l.out];rfl)
     clear hE
     go_wp2
     go_ret
     have hO':=hO.out
     rw[hEl.out,hE2.out] at hO'
     exact⟨w.heap.size,cap,_,by rw[HnL.out,←hEl.out];rfl,Nat.le_refl _,by rw[HnL.out];exact hc1,by unfold maxLen;exact hc2,Hfin.out _ _ _ hB.out hO',hB.out⟩
    ·obtain rfl:k=1:=by omega
     have hE2:Hid (E=E1):=hid hE.out
     have hEl:Hid (E.length=n):=hid (by rw[hE2.out,HE1l.out])
     have hcell:=(hB.out.cell (p:=⟨bl,1,none⟩) hll).trans hcl1
     have hgl:=hO.out.lt
     have hllr:bl<wr.heap.size:=Nat.lt_of_lt_of_le hll hB.out.size
     have Hrun:=hid (fun ty=>run_append_room (P:=Tryz.prog) wr 167 ty 122 i Tryz.underlying167 Hi.out w.heap.size E.length cap _ hO.out ⟨b2,o*3,none⟩ 1 c2 (ecells [el]) (by rw[ecells_length,Hs.out];rfl) (Hn2.out _ hB.out) Hone2.out (by rw[hEl.out];exact hc1) (by rw[Hs.out];simp[ecells_length,hEl.out];omega))
     rw[Hs.out] at Hrun
     have hsp:=ecells_splice E [el] (c:=cap) (by rw[hEl.out];exact hc1)
     have Hrun2:Hid (∀ty,(Builtin.append_ #[167,167] ty #[.slice (some ⟨w.heap.size,0,none⟩) E.length cap,.slice (some ⟨b2,o*3,none⟩) 1 c2]).run Tryz.prog wr = .ok (.slice (some ⟨w.heap.size,0,none⟩) (E++[el]).length cap) (wr.setRow w.heap.size (ecells ((E++[el])++List.replicate (cap-(E++[el]).length) zeroEl)).toArray)):=hid (by
      intro ty
      have h:=Hrun.out ty
      rw[List.toList_toArray,hsp] at h
      rw[h,List.length_append];rfl)
     have HO2:Hid (Own (wr.setRow w.heap.size (ecells ((E++[el])++List.replicate (cap-(E++[el]).length) zeroEl)).toArray) w.heap.size 122 (ecells ((E++[el])++List.replicate (cap-(E++[el]).length) zeroEl))):=hid (setRow_heap wr w.heap.size _ _ 122 (0,0) hO.out)
     have HB2:Hid (Below w.heap.size w (wr.setRow w.heap.size (ecells ((E++[el])++List.replicate (cap-(E++[el]).length) zeroEl)).toArray)):=hid (below_setRow hB.out (Nat.le_refl _) _)
     clear hsp Hrun hO hB
     obtain⟨E2,hE22⟩:∃E2,E2=E++[el]:=⟨_,rfl⟩
     rw[←hE22] at Hrun2 HO2 HB2
     have HE22:Hid (E2=E1++[el]):=hid (by rw[hE22,hE2.out])
     clear hE22
     go_wp2_with (at_builtin;(refine Lib.wpList_append_run _ rfl _ _ _ _ rfl _ _ rfl rfl _ _ (Hrun2.out _) ?_))
     go_roundg 0
     case rel=>exact⟨⟨2,E2,by go_num,rfl,rfl,hid (by rw[HE22.out];rfl),HO2⟩,HB2⟩
     case measure=>omega
    ·obtain rfl:k=0:=by omega
     have hE2:E=[]:=hE.out
     subst hE2
     have hcell:=(hB.out.cell (p:=⟨bl,0,none⟩) hll).trans hcl0
     have hgl:=hO.out.lt
     have hllr:bl<wr.heap.size:=Nat.lt_of_lt_of_le hll hB.out.size
     have Hrun:=hid (fun ty=>run_append_room (P:=Tryz.prog) wr 167 ty 122 i Tryz.underlying167 Hi.out w.heap.size ([]:List El).length cap _ hO.out ⟨b1,0,none⟩ n c1 (ecells E1) (by rw[ecells_length,Hs.out,HE1l.out]) (Hn1.out _ hB.out) Ho1.out (by simp;omega) (by rw[Hs.out];simp[ecells_length,HE1l.out];omega))
     rw[Hs.out] at Hrun
     have hsp:=ecells_splice [] E1 (c:=cap) (by rw[HE1l.out];simp;omega)
     have Hrun2:Hid (∀ty,(Builtin.append_ #[167,167] ty #[.slice (some ⟨w.heap.size,0,none⟩) 0 cap,.slice (some ⟨b1,0,none⟩) n c1]).run Tryz.prog wr = .ok (.slice (some ⟨w.heap.size,0,none⟩) E1.length cap) (wr.setRow w.heap.size (ecells (E1++List.replicate (cap-E1.length) zeroEl)).toArray)):=hid (by
      intro ty
      have h:=Hrun.out ty
      rw[List.toList_toArray,hsp] at h
      simp only[List.length_nil,Nat.zero_add,List.nil_append] at h
      rw[HE1l.out] at *
      exact h)
     have HO2:Hid (Own (wr.setRow w.heap.size (ecells (E1++List.replicate (cap-E1.length) zeroEl)).toArray) w.heap.size 122 (ecells (E1++List.replicate (cap-E1.length) zeroEl))):=hid (setRow_heap wr w.heap.size _ _ 122 (0,0) hO.out)
     have HB2:Hid (Below w.heap.size w (wr.setRow w.heap.size (ecells (E1++List.replicate (cap-E1.length) zeroEl)).toArray)):=hid (below_setRow hB.out (Nat.le_refl _) _)
     clear hsp Hrun hO hB hE
     go_wp2_with (at_builtin;(refine Lib.wpList_append_run _ rfl _ _ _ _ rfl _ _ rfl rfl _ _ (Hrun2.out _) ?_))
     go_roundg 1
     case rel=>exact⟨⟨1,E1,by go_num,rfl,rfl,hid rfl,HO2⟩,HB2⟩
     case measure=>omega
    ·omega
  ·obtain rfl:k=1:=by omega
   have hsz2:sz=n:=hsz
   subst hsz2
   clear hsz
   go_wp2
   go_roundg 0
   case rel=>exact⟨⟨2,sz+1,by go_num,by go_num,rfl,rfl⟩,rfl⟩
   case measure=>omega
  ·obtain rfl:k=0:=by omega
   have hsz2:sz=0:=hsz
   subst hsz2
   clear hsz
   go_wp2
   go_roundg 1
   case rel=>exact⟨⟨1,n,by go_num,by first | rfl | simp | go_num,rfl,rfl⟩,rfl⟩
   case measure=>omega
  ·omega
def joinM (M:List (List Rat)) (b:List Rat):List (List Rat):=M.mapIdx fun i L=>L++[b[i]?.getD 0]
theorem joinM_at {M:List (List Rat)} {b:List Rat} {i:Nat} {L:List Rat} (h:M[i]? =some L):(joinM M b)[i]? =some (L++[b[i]?.getD 0]):=by unfold joinM;rw[List.getElem?_mapIdx,h];rfl
theorem joinM_len (M:List (List Rat)) (b:List Rat):(joinM M b).length=M.length:=by simp[joinM]
def solTo (S:ElS Rat) (n k:Nat):List Rat:=(List.range k).foldl (fun l i=>l.set (S.cols[i]?.getD 0) (numT ratF S.rows i n)) (List.replicate n 0)
theorem solTo_succ (S:ElS Rat) (n k:Nat):solTo S n (k+1)=(solTo S n k).set (S.cols[k]?.getD 0) (numT ratF S.rows k n):=by unfold solTo;rw[List.range_succ,List.foldl_append];rfl
theorem solTo_length (S:ElS Rat) (n k:Nat):(solTo S n k).length=n:=by
 induction k with
 | zero=>simp[solTo]
 | succ k ih=>rw[solTo_succ,List.length_set,ih]
theorem solTo_same {S Z:ElS Rat} (h:SameS S Z) (n k:Nat):solTo S n k=solTo Z n k:=by
 induction k with
 | zero=>rfl
 | succ k ih=>rw[solTo_succ,solTo_succ,ih,h.cols,numT_vals h.rows]
def solvePost (n:Nat) (M:List (List Rat)) (b:List Rat) (w:World) (e:Ending) (w':World):Prop:=
 Below w.heap.size w w'∧((n∈(elimM ratF (n+1) (joinM M b)).cols∧e = .returned (.tuple #[nilV,.bool false])) ∨
  (n ∉ (elimM ratF (n+1) (joinM M b)).cols ∧ ∃g es,e = .returned (.tuple #[.slice (some ⟨g,0,none⟩) n n,.bool true])∧w.heap.size≤g∧RowQ w' g es (solTo (elimM ratF (n+1) (joinM M b)) n (elimM ratF (n+1) (joinM M b)).cols.length)))
theorem solveQ_c (g c n bR cR:Nat) (R:List RowR) (esR:List El) (b:List Rat) (w:World) (hM:MxR w g R n) (hc:R.length≤c) (hc2:c≤1000000) (hn:n≤999999) (h0:R=[]→n=0)
  (hb:RowQ w bR esR b) (hbl:b.length=R.length) (hcR:b.length≤cR) (hcR2:cR≤9223372036854775807) (hok:OkM (n+1) (joinM (valsT R) b)):
  Calls Tryz.prog 154 #[.iface 172 (.agg #[]),.slice (some ⟨g,0,none⟩) R.length c,.slice (some ⟨bR,0,none⟩) R.length cR] w (solvePost n (valsT R) b w):=by
 obtain⟨M,hMe⟩:∃M,M=joinM (valsT R) b:=⟨_,rfl⟩
 have hMl:M.length=R.length:=by rw[hMe,joinM_len,vals_len]
 have HM:=hid hM
 have HB:=hid hb
 have HBl:=hid hbl
 have HOK:Hid (OkM (n+1) M):=hid (by rw[hMe];exact hok)
 have HME:=hid hMe
 have HMl:=hid hMl
 have hmk:=make_rowsQ w R.length (by omega)
 have WD:Hid (Calls Tryz.prog 159 #[.slice (some ⟨g,0,none⟩) R.length c] w fun e w'=>e = .returned (.int .i64 (n:Int))∧w=w'):=hid (by
  have h:=widthR_c g c n R w hM
  by_cases hR:R=[]
  ·rw[if_pos hR] at h;rw[h0 hR];exact h
  ·rw[if_neg hR] at h;exact h)
 have HS0:Hid (RowsQTo w (w.alloc (.cells (List.replicate R.length nilV).toArray 167)) w.heap.size (n+1) M 0 []):=hid (by have:=RowsQTo.start w M (n+1);rw[hMl] at this;exact this)
 have hcRR:R.length≤cR:=by omega
 clear hM hb hbl hok hMe hMl hcR h0
 go_enter Tryz.func154,Tryz.ntmps154
 go_wp2_with (go_at_call 159;refine WD.out.mono ?_;rintro e w' ⟨rfl,rfl⟩)
 clear hmk WD
 go_loopg [22] R.length (fun gh i wr=>∃(k:Nat) (J:List RowR),i = .int .i64 k∧k+gh=R.length∧Hid (RowsQTo w wr w.heap.size (n+1) M k J)∧Hid (Below w.heap.size w wr))
 case atStart=>exact⟨0,[],rfl,by omega,HS0,hid ((Below.refl _ _).alloc (Nat.le_refl _) _)⟩
 case round=>
  clear HS0
  obtain⟨k,J,rfl,hk,hJ,hW⟩:=hrel
  cases gk with
  | succ gh=>
   have hlt:k<R.length:=by omega
   have hlt':(k:Int)<(R.length:Int):=by omega
   obtain⟨r,hr⟩:∃r,R[k]? =some r:=⟨R[k],List.getElem?_eq_getElem hlt⟩
   have hMr:=HM.out.below hW.out
   have hck:=hMr.cellRow hr
   have hgl:=hMr.own.lt
   obtain⟨⟨es,hro⟩,hrl,hrc1,hrc2⟩:=hMr.row _ (List.mem_of_getElem? hr)
   have hJl:=hJ.out.own.lt
   have hjk:=(hJ.out.own.cell k)
   rw[List.getElem?_append_right (by rw[List.length_map,hJ.out.len (by rw[HMl.out];omega)];omega),List.length_map,hJ.out.len (by rw[HMl.out];omega),Nat.sub_self,HMl.out,show R.length-k=(R.length-(k+1))+1 by omega,List.replicate_succ,List.getElem?_cons_zero] at hjk
   have hjf:=hJ.out.own.free k
   have HMk:Hid (M[k]? =some (r.2.2++[b[k]?.getD 0])):=hid (by rw[HME.out];exact joinM_at (by unfold valsT;rw[List.getElem?_map,hr];rfl))
   have Hk:=hid hk
   have Hrl:=hid hrl
   have hal:∀o:Obj,Below wr.heap.size wr (wr.alloc o):=fun o=>(Below.refl _ _).alloc (Nat.le_refl _) _
   have CC:=hid (concatQ_c (wr.alloc (.cells #[.slice (some ⟨r.1,0,none⟩) n r.2.1,.slice (some ⟨bR,k*3,none⟩) 1 (cR-k)] 167)) wr.heap.size r.1 bR n 2 r.2.1 (cR-k) k es esR r.2.2 b (Own.make wr _ [.slice (some ⟨r.1,0,none⟩) n r.2.1,.slice (some ⟨bR,k*3,none⟩) 1 (cR-k)]) (hro.below (hal _)) hrl.symm (by omega) (Nat.le_refl _) ((HB.out.below hW.out).below (hal _)) (by rw[HBl.out];exact hlt))
   clear hk hr hro hrl hMr hal
   obtain⟨kb,kc,kl⟩:=r
   unfold rowW at hck
   dsimp only at hck hrc1 hrc2 CC HMk Hrl
   generalize hx:kl++[b[k]?.getD 0]=X at *
   have HXl:Hid (X.length=n+1):=hid (by rw[←hx,List.length_append,Hrl.out];rfl)
   clear hx
   go_wp2_with fail
   refine CC.out.mono ?_
   clear CC
   rintro e w3 ⟨gn,cn,es3,rfl,hgn,hcn1,hcn2,hR3,hB3⟩
   rw[HXl.out] at hcn1 ⊢
   unfold maxLen at hcn2
   have hB13:Below wr.heap.size wr w3:=((Below.refl wr.heap.size wr).alloc (Nat.le_refl _) _).trans (hB3.mono (by simp))
   have hjk3:=(hB13.cell (p:=⟨w.heap.size,k,none⟩) hJl).trans hjk
   have hjf3:=(hB13.frozen (p:=⟨w.heap.size,k,none⟩) hJl).trans hjf
   have hJl3:w.heap.size<w3.heap.size:=Nat.lt_of_lt_of_le hJl hB13.size
   have HJ2:=hid (hJ.out.step (cn:=cn) HMk.out HXl.out hcn1 hcn2 hB13 (by simp at hgn;omega) (by have:=hW.out.size;simp at hgn;omega) hR3)
   have HW2:=hid ((hW.out.trans (hB13.mono hW.out.size)).setCell (p:=⟨w.heap.size,k,none⟩) (Nat.le_refl _) (.slice (some ⟨gn,0,none⟩) (n+1) cn))
   clear hR3 hB3 hB13 hJ hW hjk hjf hck
   go_wp2
   go_roundg gh
   case rel=>exact⟨k+1,_,by go_num,by have:=Hk.out;omega,HJ2,HW2⟩
   case measure=>omega
  | zero=>
   have hkR:k=R.length:=by omega
   have hin:¬((k:Int)<(R.length:Int)):=by omega
   have hJd:=(show RowsQTo w wr w.heap.size (n+1) M M.length J by have:=hJ.out;rw[hkR,←HMl.out] at this;exact this).done
   have HJn:=hid hJ.out.new
   have HJM:=hid hJd.1
   have HJv:=hid hJd.2.1
   have HJl:Hid (J.length=R.length):=hid (by rw[hJd.2.2,HMl.out])
   have EL:Hid (Calls Tryz.prog 147 #[.iface 172 (.agg #[]),.slice (some ⟨w.heap.size,0,none⟩) R.length R.length] wr (elimPostR (n+1) w.heap.size R.length J wr)):=hid (by
    have h:=eliminateR_c w.heap.size R.length (n+1) J wr HJM.out (by rw[HJl.out];exact Nat.le_refl _) (by omega) (by omega) (HOK.out.rows HJv.out)
    rw[HJl.out] at h
    exact h)
   clear hJd hJ hk
   go_wp2_with fail
   refine EL.out.mono ?_
   clear EL
   rintro e w1 ⟨S,hS,cv,pv,rfl,hM1,hcv,hpv,hl1,hl2,hl3,hpm,hbs⟩
   obtain⟨A1,k1,rfl,_,_⟩:=oForm hcv
   obtain⟨A2,k2,rfl,_,_⟩:=hpv.form
   have HSame:Hid (SameS S (elimM ratF (n+1) M)):=hid (by rw[hS];exact elim_same HJv.out _)
   have Hcl:Hid (∀c∈S.cols,c<n+1):=hid (by rw[hS];exact elGo_cols _ _ _ (by omega) (by simp))
   have HM1:=hid hM1
   have Hcv:=hid hcv
   have Hl1:=hid hl1
   have Hl2:=hid hl2
   have Hl3:=hid (hl3.trans HJl.out)
   have HWB:Hid (Below w.heap.size w w1):=hid (hW.out.trans (hbs.toBelow (fun k hk=>by
    rcases List.mem_cons.1 hk with rfl | hk
    ·exact Nat.le_refl _
    ·obtain⟨r,hr,rfl⟩:=List.mem_map.1 hk
     exact HJn.out r hr) hW.out.size))
   clear hS hM1 hcv hpv hl1 hl2 hl3 hpm hbs hW HJn HJM HJv
   have hofm:=qOf_meth
   have hcl1:S.cols.length≤1000000:=by have:=Hl1.out;have:=Hl2.out;have:=Hl3.out;omega
   obtain⟨W0,hW0⟩:∃W0,W0=w1.alloc (.cells #[.slice (some ⟨w.heap.size,0,none⟩) S.piv.length R.length,.slice A1 S.cols.length k1,.slice A2 S.piv.length k2,.bool S.odd] 169):=⟨_,rfl⟩
   have hX:Hid (Own W0 w1.heap.size 169 [.slice (some ⟨w.heap.size,0,none⟩) S.piv.length R.length,.slice A1 S.cols.length k1,.slice A2 S.piv.length k2,.bool S.odd]):=hid (by rw[hW0];exact Own.make _ _ _)
   have ha:Below w1.heap.size w1 W0:=by rw[hW0];exact(Below.refl _ _).alloc (Nat.le_refl _) _
   have HM2:=hid (HM1.out.below ha)
   have Hcv2:=hid (oBelow Hcv.out ha)
   have HW0B:=hid (HWB.out.trans (ha.mono HWB.out.size))
   clear ha HM1 Hcv HWB
   go_wp2_with fail
   rw[←hW0]
   clear hW0
   refine(of0Q _).mono ?_
   rintro e w2 ⟨zv,rfl,hzv,hB2⟩
   obtain⟨zs,Z1,zn1,zc1,Z2,zn2,zc2,rfl⟩:=hzv.shape
   have HF:=hid (filledQ_c _ 0 _ n (by omega) hzv)
   clear hzv
   go_wp2_with fail
   refine HF.out.mono ?_
   rintro e w3 ⟨gl,es3,rfl,hgl,hO3,hB3⟩
   have HB3:=hid (hB2.trans (hB3.mono hB2.size))
   have hglW:W0.heap.size≤gl:=Nat.le_trans hB2.size hgl
   have HO3:Hid (∃es',RowQ w3 gl es' (solTo S n 0)):=hid ⟨es3,hO3⟩
   have hX3:=hX.out.below HB3.out hX.out.lt
   obtain⟨x0,x1,x2,x3,y0,y1,y2,y3⟩:=hX3.four
   have hXl:=hX.out.lt
   clear hB2 hB3 hO3 HF hX3 hgl
   go_wp2_with fail
   clear x0 x1 x2 x3 y0 y1 y2 y3
   go_loopg [6,49] S.cols.length (fun gh2 sv ix wx=>∃i:Nat,ix = .int .i64 i∧sv = .slice (some ⟨gl,0,none⟩) n n∧i+gh2=S.cols.length∧Hid (Below W0.heap.size W0 wx)∧Hid (∃es',RowQ wx gl es' (solTo S n i))∧Hid (∀j<i,S.cols[j]?.getD 0≠n))
   case atStart=>exact⟨0,rfl,rfl,by omega,HB3,HO3,hid (fun j hj=>by omega)⟩
   case round=>
    clear HB3 HO3
    obtain⟨i,rfl,rfl,hi,hWx,hOx,hne⟩:=hrel
    cases gk with
    | zero=>
     have hin3:¬((i:Int)<(S.cols.length:Int)):=by omega
     have hnot:n ∉ (elimM ratF (n+1) M).cols:=by
      rw[←HSame.out.cols]
      intro hm
      obtain⟨j,hj⟩:=List.mem_iff_getElem?.1 hm
      have hjl:=(List.getElem?_eq_some_iff.1 hj).1
      exact hne.out j (by omega) (by rw[hj];rfl)
     have hOf:=hOx.out
     rw[show i=S.cols.length by omega,solTo_same HSame.out,HSame.out.cols] at hOf
     have HOf:=hid hOf
     have Hnot:=hid hnot
     clear hOf hnot hOx hne
     go_wp2
     go_ret2
     unfold solvePost
     rw[←HME.out]
     obtain⟨es',h'⟩:=HOf.out
     exact⟨HW0B.out.trans (hWx.out.mono HW0B.out.size),.inr ⟨Hnot.out,gl,es',rfl,by have:=HW0B.out.size;omega,h'⟩⟩
    | succ gh2=>
     have hil:i<S.cols.length:=by omega
     have hil':(i:Int)<(S.cols.length:Int):=by omega
     have hilp:i<S.piv.length:=by have:=Hl1.out;omega
     obtain⟨cb,hA,_,hcbl,hcc⟩:=oCell (oBelow Hcv2.out hWx.out) (j:=i) hil
     have c3:wr.cell? ⟨cb,i,none⟩=some (.int .i64 ((S.cols[i]?.getD 0:Nat):Int)):=(hcc i hil).trans (by simp[ncells,hil])
     have hci:S.cols[i]?.getD 0<n+1:=Hcl.out _ (by rw[List.getElem?_eq_getElem hil];exact List.getElem_mem hil)
     have Hsucc:=hid (solTo_succ S n i)
     have Hi:=hid hi
     have Hne2:Hid (S.cols[i]?.getD 0≠n → ∀j<i+1,S.cols[j]?.getD 0≠n):=hid (fun h j hj=>by
      rcases Nat.lt_or_ge j i with hji | hji
      ·exact hne.out j hji
      ·rw[show j=i by omega];exact h)
     have Hmem:Hid (S.cols[i]?.getD 0=n→n∈(elimM ratF (n+1) M).cols):=hid (fun h=>by
      rw[←HSame.out.cols,←h,List.getElem?_eq_getElem hil];exact List.getElem_mem hil)
     subst hA
     clear hcc hi hne
     generalize S.cols[i]?.getD 0=ci at *
     by_cases hcn:ci=n
     ·have hcnB:((ci:Int)==(n:Int))=true:=by simp;omega
      have Hm:=hid (Hmem.out hcn)
      clear hcn Hmem Hne2 Hsucc hOx
      go_wp2
      go_ret2
      unfold solvePost
      rw[←HME.out]
      exact⟨HW0B.out.trans (hWx.out.mono HW0B.out.size),.inl ⟨Hm.out,rfl⟩⟩
     ·have hcnB:((ci:Int)==(n:Int))=false:=by simp;omega
      have hcin:ci<n:=by omega
      have hcin':(ci:Int)<(n:Int):=by omega
      have HN:=hid (Hne2.out hcn)
      clear hcn Hmem Hne2 hci
      obtain⟨r,hr⟩:∃r,S.rows[i]? =some r:=⟨S.rows[i]'(by have:=Hl2.out;omega),List.getElem?_eq_getElem _⟩
      have hMb:=HM2.out.below hWx.out
      have cc1:=hMb.cellRow hr
      obtain⟨⟨esr,hrq⟩,hrl,hrc1,hrc2⟩:=hMb.row _ (List.mem_of_getElem? hr)
      obtain⟨er,R1,rn1,rc1,R2,rn2,rc2,zz0,her,hrt,d0,d1,d2,zz1,zz2,zz3⟩:=hrq.at_ (j:=n) (by rw[hrl];omega)
      clear zz0 zz1 zz2 zz3
      obtain⟨er0,era,erb⟩:=er
      have her':era = .slice R1 rn1 rc1∧erb = .slice R2 rn2 rc2:=by simpa using her
      obtain⟨rfl,rfl⟩:=her'
      clear her
      unfold elV at hrt
      dsimp only at d0 hrt
      have hgb:=hMb.own.lt
      have hrbl:=hrq.own.lt
      have Hy:Hid (numT ratF S.rows i n=r.2.2[n]?.getD 0):=hid (by unfold numT;rw[rowOf_eq hr];rfl)
      obtain⟨esx,hOx1⟩:=hOx.out
      obtain⟨t4,T1,tn1,tc1,T2,tn2,tc2,zz0,ht4,zz1,c40,c41,c42,f40,f41,f42⟩:=hOx1.at_ (j:=ci) (by rw[solTo_length];exact hcin)
      clear zz0 zz1
      obtain⟨t40,t4a,t4b⟩:=t4
      have ht4':t4a = .slice T1 tn1 tc1∧t4b = .slice T2 tn2 tc2:=by simpa using ht4
      obtain⟨rfl,rfl⟩:=ht4'
      clear ht4
      dsimp only at c40
      have hgll:=hOx1.own.lt
      have HO7:Hid (∃es',RowQ (((wr.setCell ⟨gl,ci*3,none⟩ (.bool er0)).setCell ⟨gl,ci*3+1,none⟩ (.slice R1 rn1 rc1)).setCell ⟨gl,ci*3+2,none⟩ (.slice R2 rn2 rc2)) gl es' (solTo S n (i+1))):=hid (by
       rw[Hsucc.out,Hy.out]
       exact⟨_,hOx1.put (j:=ci) (e:=(er0,.slice R1 rn1 rc1,.slice R2 rn2 rc2)) (by rw[solTo_length];exact hcin) hrt⟩)
      have HW7:=hid (((hWx.out.setCell (p:=⟨gl,ci*3,none⟩) hglW (.bool er0)).setCell (p:=⟨gl,ci*3+1,none⟩) hglW (.slice R1 rn1 rc1)).setCell (p:=⟨gl,ci*3+2,none⟩) hglW (.slice R2 rn2 rc2))
      have hXw:=hX.out.below hWx.out hX.out.lt
      obtain⟨x0,x1,x2,x3,y0,y1,y2,y3⟩:=hXw.four
      obtain⟨rb,rc,rl⟩:=r
      unfold rowW at cc1
      dsimp only at cc1 hrl hrc1 hrc2 hrbl d0 d1 d2
      clear hr hMb hrq hrt Hy hOx1 hOx hXw hrl
      go_wp2
      go_roundg gh2
      case rel=>exact⟨i+1,by go_num,rfl,by have:=Hi.out;omega,HW7,HO7,HN⟩
      case measure=>omega
def detPostM (M:List (List Txt)) (w:World) (e:Ending) (w':World):Prop:=
 Below w.heap.size w w'∧((matErr M=0∧widM M=M.length∧e=writeEnd (detM (widM M) (M.map rvals)))∨(matErr M=0∧widM M≠M.length∧e = .returned (.tuple #[.string ⟨#[]⟩,.int .i64 2]))∨(matErr M≠0∧e = .returned (.tuple #[.string ⟨#[]⟩,.int .i64 (matErr M)])))
def DetMOk (n:Nat) (M:List (List Rat)):Prop:=OkM n M∧DetOk (elimM ratF n M)∧FitQ (detM n M)
theorem newBelow {w w1 w2:World} {g:Nat} {R:List RowR} (hB1:Below w.heap.size w w1) (hg:w.heap.size≤g) (hnew:∀r∈R,w.heap.size≤r.1) (hbs:ButS (g::R.map (·.1)) w1 w2):Below w.heap.size w w2:=
 hB1.trans (hbs.toBelow (fun k hk=>by
  rcases List.mem_cons.1 hk with rfl | hk
  ·exact hg
  ·obtain⟨r,hr,rfl⟩:=List.mem_map.1 hk;exact hnew r hr) hB1.size)
theorem Determinant_c (v:Value) (M:List (List Txt)) (w:World) (hv:TblT w v M) (hT:∀r∈M,∀l∈r,TxtOk l) (hG:Glob w) (hok:matErr M=0→widM M=M.length→DetMOk (widM M) (M.map rvals)):
  Calls Tryz.prog 83 #[v] w (detPostM M w):=by
 have RR:=hid (readRowsQ_c v M w hv hT hG)
 obtain⟨A,c,rfl,_,_⟩:=hv.form
 have HOK:=hid hok
 have HG:=hid hG
 clear hv hT hG hok
 go_enter Tryz.func83,Tryz.ntmps83
 go_wp2_with fail
 refine RR.out.mono ?_
 clear RR
 rintro e w1 ⟨hB1,⟨hM,g,R,rfl,hg,hnew,hmx,hvals⟩ | ⟨hM,rfl⟩⟩
 ·change MxR w1 g R (widM M) at hmx
  obtain⟨hm1,hn1⟩:=matErr_ok hM
  have HM:=hid hM
  have hRl:R.length=M.length:=by rw[←vals_len R,hvals];simp
  have WD:Hid (Calls Tryz.prog 159 #[.slice (some ⟨g,0,none⟩) M.length M.length] w1 fun e w'=>e = .returned (.int .i64 (widM M:Nat))∧w1=w'):=hid (by
   have h:=widthR_c g M.length (widM M) R w1 hmx
   rw[hRl] at h
   by_cases hR:R=[]
   ·rw[if_pos hR] at h
    have:M=[]:=List.length_eq_zero_iff.1 (by rw[←hRl,hR];rfl)
    have h2:widM M=0:=by rw[this];rfl
    rw[h2];exact h
   ·rw[if_neg hR] at h;exact h)
  have HB1:=hid hB1
  by_cases hsq:widM M=M.length
  ·have hsq':(((widM M:Nat):Int) != (M.length:Int))=false:=by simp;omega
   obtain⟨hok1,hok2,hok3⟩:=HOK.out hM hsq
   have DT:=hid (determinantQ_c g M.length (widM M) R w1 hmx (by omega) (by omega) (by omega) (by rw[hvals];exact hok1) (by rw[hvals];exact hok2))
   rw[hRl] at DT
   have Hvals:=hid hvals
   have Hnew:=hid hnew
   have HF:=hid hok3
   have HSQ:=hid hsq
   clear hmx hnew hvals hok1 hok2 hok3 hM hB1 hRl HOK hsq
   go_wp2_with (first | (go_at_call 159;refine WD.out.mono ?_;rintro e w' ⟨rfl,rfl⟩))
   refine DT.out.mono ?_
   clear DT WD
   rintro e w2 ⟨dv,rfl,hdv,hbs⟩
   rw[Hvals.out] at hdv
   have hB2:=newBelow HB1.out hg Hnew.out hbs
   have WR:=hid (write_c dv (detM (widM M) (M.map rvals)) w2 hdv HF.out.1 HF.out.2 (HG.out.below hB2))
   have HB2:=hid hB2
   obtain⟨s,B1,m1,k1,B2,m2,k2,rfl⟩:=hdv.shape
   generalize hde:detM (widM M) (M.map rvals)=D at *
   have HDE:=hid hde
   clear hdv hbs hB2 hde HF
   go_wp2_with fail
   refine WR.out.mono ?_
   clear WR
   rintro e w3 ⟨rfl,hB3⟩
   have HB3:=hid (HB2.out.trans (hB3.mono HB2.out.size))
   clear hB3
   have hend:∃(t:ByteArray) (k:Int),writeEnd D = .returned (.tuple #[.string t,.int .i64 k]):=by
    unfold writeEnd;split
    ·exact⟨_,_,rfl⟩
    ·exact⟨_,_,rfl⟩
   obtain⟨t,k,hend⟩:=hend
   have HE:=hid hend
   rw[hend]
   clear hend
   go_wp2
   go_ret2
   exact⟨HB3.out,.inl ⟨HM.out,HSQ.out,by rw[HDE.out,HE.out];rfl⟩⟩
  ·have hsq':(((widM M:Nat):Int) != (M.length:Int))=true:=by simp;omega
   have HSQ:=hid hsq
   clear hmx hnew hvals hM hB1 hRl HOK hsq
   go_wp2_with (first | (go_at_call 159;refine WD.out.mono ?_;rintro e w' ⟨rfl,rfl⟩))
   go_ret2
   exact⟨HB1.out,.inr (.inl ⟨HM.out,HSQ.out,rfl⟩)⟩
 ·have HX:=hid hM
  have hne:(matErr M != 0)=true:=by simpa using hM
  clear HOK hM
  generalize hec:matErr M=ec at *
  have HEC:=hid hec
  clear hec
  go_wp2
  go_ret2
  exact⟨hB1,.inr (.inr ⟨by rw[HEC.out];exact HX.out,by rw[HEC.out];rfl⟩)⟩
def sideErr (L:List Txt) (n:Nat):Int:=if L.length≠n then 2 else rowErr L
def sidePost (L:List Txt) (n:Nat) (w:World) (e:Ending) (w':World):Prop:=
 Below w.heap.size w w'∧((sideErr L n=0∧L.length=n ∧ ∃g es,e = .returned (.tuple #[.slice (some ⟨g,0,none⟩) n n,.int .i64 0])∧w.heap.size≤g∧RowQ w' g es (rvals L))∨(sideErr L n≠0∧e = .returned (.tuple #[nilV,.int .i64 (sideErr L n)])))
theorem readSide_c (v:Value) (L:List Txt) (n:Nat) (w:World) (hv:SlW w v (scells L)) (hn:n≤1000000) (hT:∀l∈L,TxtOk l) (hG:Glob w):
  Calls Tryz.prog 157 #[v,.int .i64 n] w (sidePost L n w):=by
 have hv':=hv
 obtain⟨A,c,rfl,_,hc2⟩:=hv'.form
 simp only[scells_length] at hc2 hv ⊢
 clear hv'
 by_cases hl:L.length=n
 ·have hl':((L.length:Int) != (n:Int))=false:=by simp;omega
  have HS:Hid (sideErr L n=rowErr L):=hid (by unfold sideErr;rw[if_neg (by simpa using hl)])
  have CV:=hid (convertQ_c _ L w hv (by omega) hT hG)
  have HL:=hid hl
  clear hv hT hG hl
  go_enter Tryz.func157,Tryz.ntmps157
  go_wp2_with fail
  refine CV.out.mono ?_
  clear CV
  rintro e w1 ⟨hB1,⟨hib,gn,esn,rfl,hg,hO1⟩ | ⟨hib,rfl⟩⟩
  ·have HO:=hid hO1
   have HI:=hid hib
   clear hO1 hib
   go_wp2
   go_ret2
   exact⟨hB1,.inl ⟨by rw[HS.out];exact HI.out,HL.out,gn,esn,by rw[←HL.out];rfl,hg,HO.out⟩⟩
  ·have HI:=hid hib
   clear hib
   generalize hec:rowErr L=ec at *
   go_wp2
   go_ret2
   exact⟨hB1,.inr ⟨by rw[HS.out];exact HI.out,by rw[HS.out];rfl⟩⟩
 ·have hl':((L.length:Int) != (n:Int))=true:=by simp;omega
  have HS:Hid (sideErr L n=2):=hid (by unfold sideErr;rw[if_pos hl])
  clear hv hT hG hl
  go_enter Tryz.func157,Tryz.ntmps157
  go_wp2
  go_ret2
  exact⟨Below.refl _ _,.inr ⟨by rw[HS.out];decide,by rw[HS.out];rfl⟩⟩
def eqErr (M:List (List Txt)) (b:List Txt):Int:=if matErr M=0 then sideErr b M.length else matErr M
def eqPost (M:List (List Txt)) (b:List Txt) (w:World) (e:Ending) (w':World):Prop:=
 Below w.heap.size w w'∧((eqErr M b=0∧matErr M=0∧b.length=M.length ∧ ∃(g:Nat) (R:List RowR) (gb:Nat) (eb:List El),e = .returned (.tuple #[.slice (some ⟨g,0,none⟩) M.length M.length,.slice (some ⟨gb,0,none⟩) M.length M.length,.int .i64 0]) ∧
   w.heap.size≤g∧(∀r∈R,w.heap.size≤r.1)∧MxR w' g R (widM M)∧valsT R=M.map rvals∧w.heap.size≤gb∧RowQ w' gb eb (rvals b)) ∨
  (eqErr M b≠0 ∧ ∃v,e = .returned (.tuple #[v,nilV,.int .i64 (eqErr M b)])))
theorem readEquations_c (v u:Value) (M:List (List Txt)) (b:List Txt) (w:World) (hv:TblT w v M) (hu:SlW w u (scells b)) (hT:∀r∈M,∀l∈r,TxtOk l) (hTb:∀l∈b,TxtOk l) (hG:Glob w):
  Calls Tryz.prog 153 #[v,u] w (eqPost M b w):=by
 have RR:=hid (readRowsQ_c v M w hv hT hG)
 obtain⟨A,c,rfl,_,_⟩:=hv.form
 have RS:=hid (fun (hl:M.length≤1000000) W (hw:Below w.heap.size w W)=>readSide_c u b M.length W (hu.below hw) hl hTb (hG.below hw))
 obtain⟨A2,c2,rfl,_,_⟩:=hu.form
 simp only[scells_length] at RS ⊢
 clear hv hu hT hTb hG
 go_enter Tryz.func153,Tryz.ntmps153
 go_wp2_with fail
 refine RR.out.mono ?_
 clear RR
 rintro e w1 ⟨hB1,⟨hM,g,R,rfl,hg,hnew,hmx,hvals⟩ | ⟨hM,rfl⟩⟩
 ·change MxR w1 g R (widM M) at hmx
  have RS2:=hid (RS.out (by have:=(matErr_ok hM).1;omega) w1 hB1)
  have HE:Hid (eqErr M b=sideErr b M.length):=hid (by unfold eqErr;rw[if_pos hM])
  have HM:=hid hM
  have HB1:=hid hB1
  have Hmx:=hid hmx
  have Hnew:=hid hnew
  have Hvals:=hid hvals
  clear RS hM hB1 hmx hnew hvals
  go_wp2_with fail
  refine RS2.out.mono ?_
  clear RS2
  rintro e w2 ⟨hB2,⟨hs,hl,gb,eb,rfl,hgb,hO⟩ | ⟨hs,rfl⟩⟩
  ·have HS:=hid hs
   have HL:=hid hl
   have HO:=hid hO
   have HB2:=hid (HB1.out.trans (hB2.mono HB1.out.size))
   have Hmx2:=hid (Hmx.out.below hB2)
   have hgbw:w.heap.size≤gb:=Nat.le_trans HB1.out.size hgb
   clear hs hl hO hB2
   go_wp2
   go_ret3
   exact⟨HB2.out,.inl ⟨by rw[HE.out];exact HS.out,HM.out,HL.out,g,R,gb,eb,rfl,hg,Hnew.out,Hmx2.out,Hvals.out,hgbw,HO.out⟩⟩
  ·have HS:=hid hs
   have HB2:=hid (HB1.out.trans (hB2.mono HB1.out.size))
   clear hs hB2
   generalize hec:sideErr b M.length=ec at *
   go_wp2
   go_ret3
   exact⟨HB2.out,.inr ⟨by rw[HE.out];exact HS.out,_,by rw[HE.out];rfl⟩⟩
 ·have HX:=hid hM
  have HE:Hid (eqErr M b=matErr M):=hid (by unfold eqErr;rw[if_neg hM])
  have hne:(matErr M != 0)=true:=by simpa using hM
  clear hM RS
  generalize hec:matErr M=ec at *
  go_wp2
  go_ret3
  exact⟨hB1,.inr ⟨by rw[HE.out];exact HX.out,_,by rw[HE.out];rfl⟩⟩
def solS (n:Nat) (M:List (List Rat)) (b:List Rat):ElS Rat:=elimM ratF (n+1) (joinM M b)
def solL (n:Nat) (M:List (List Rat)) (b:List Rat):List Rat:=solTo (solS n M b) n (solS n M b).cols.length
def SolOk (n:Nat) (M:List (List Rat)) (b:List Rat):Prop:=OkM (n+1) (joinM M b) ∧ ∀q∈solL n M b,FitQ q
def rowPost (L:List Rat) (w:World) (e:Ending) (w':World):Prop:=
 ((∀q∈L,¬tooLong q) ∧ ∃g,e = .returned (.tuple #[.slice (some ⟨g,0,none⟩) L.length L.length,.int .i64 0])∧w.heap.size≤g∧Own w' g 22 (scells (L.map rtext)))∨((∃q∈L,tooLong q)∧e = .returned (.tuple #[nilV,.int .i64 4]))
def solPostM (M:List (List Txt)) (b:List Txt) (w:World) (e:Ending) (w':World):Prop:=
 Below w.heap.size w w'∧((eqErr M b=0∧matErr M=0∧b.length=M.length∧((widM M∈(solS (widM M) (M.map rvals) (rvals b)).cols∧e = .returned (.tuple #[nilV,.int .i64 21]))∨(widM M ∉ (solS (widM M) (M.map rvals) (rvals b)).cols∧rowPost (solL (widM M) (M.map rvals) (rvals b)) w e w'))) ∨
  (eqErr M b≠0∧e = .returned (.tuple #[nilV,.int .i64 (eqErr M b)])))
theorem Solve_c (v u:Value) (M:List (List Txt)) (b:List Txt) (w:World) (hv:TblT w v M) (hu:SlW w u (scells b)) (hT:∀r∈M,∀l∈r,TxtOk l) (hTb:∀l∈b,TxtOk l) (hG:Glob w) (hok:eqErr M b=0→SolOk (widM M) (M.map rvals) (rvals b)):
  Calls Tryz.prog 76 #[v,u] w (solPostM M b w):=by
 have RE:=hid (readEquations_c v u M b w hv hu hT hTb hG)
 have HG:=hid hG
 have HOK:=hid hok
 obtain⟨A,c,rfl,_,_⟩:=hv.form
 obtain⟨A2,c2,rfl,_,_⟩:=hu.form
 simp only[scells_length] at RE ⊢
 clear hv hu hT hTb hG hok
 go_enter Tryz.func76,Tryz.ntmps76
 go_wp2_with fail
 refine RE.out.mono ?_
 clear RE
 rintro e w1 ⟨hB1,⟨hE,hM,hbl,g,R,gb,eb,rfl,hg,hnew,hmx,hvals,hgb,hO⟩ | ⟨hE,v1,rfl⟩⟩
 ·obtain⟨hm1,hn1⟩:=matErr_ok hM
  have hRl:R.length=M.length:=by rw[←vals_len R,hvals];simp
  obtain⟨hok1,hok2⟩:=HOK.out hE
  have SV:=hid (solveQ_c g M.length (widM M) gb M.length R eb (rvals b) w1 hmx (by omega) (by omega) (by omega) (fun h=>by
   have:M=[]:=List.length_eq_zero_iff.1 (by rw[←hRl,h];rfl)
   subst this;rfl) hO (by simp[rvals];omega) (by simp[rvals];omega) (by omega) (by rw[hvals];exact hok1))
  rw[hRl,hvals] at SV
  have HE:=hid hE
  have HM:=hid hM
  have HBl:=hid hbl
  have HF:=hid hok2
  have HB1:=hid hB1
  clear hmx hnew hvals hO hE hM hbl hok1 hok2 hB1 hRl HOK hg hgb
  go_wp2_with fail
  refine SV.out.mono ?_
  clear SV
  rintro e w2 ⟨hB2,⟨hin,rfl⟩ | ⟨hnin,gs,es,rfl,hgs,hS⟩⟩
  ·have HI:=hid hin
   have HB2:=hid (HB1.out.trans (hB2.mono HB1.out.size))
   clear hin hB2 HF
   go_wp2
   go_ret2
   exact⟨HB2.out,.inl ⟨HE.out,HM.out,HBl.out,.inl ⟨HI.out,rfl⟩⟩⟩
  ·have HI:=hid hnin
   have HB2:=hid (HB1.out.trans (hB2.mono HB1.out.size))
   have hsl:(solL (widM M) (M.map rvals) (rvals b)).length=widM M:=solTo_length _ _ _
   have WR:=hid (writeRow_c gs (widM M) (widM M) es (solL (widM M) (M.map rvals) (rvals b)) w2 hS hsl.symm (by omega) (Nat.le_refl _) HF.out (HG.out.below HB2.out))
   clear hnin hB2 hS HF
   generalize hde:solL (widM M) (M.map rvals) (rvals b)=D at *
   have HDE:=hid hde
   clear hde hsl
   go_wp2_with fail
   refine WR.out.mono ?_
   clear WR
   rintro e w3 ⟨hB3,⟨hok,gn,rfl,hgn,hO3⟩ | ⟨hno,rfl⟩⟩
   ·have HK:=hid hok
    have HO3:=hid hO3
    have HB3:=hid (HB2.out.trans (hB3.mono HB2.out.size))
    have hgw:w.heap.size≤gn:=Nat.le_trans HB2.out.size hgn
    clear hok hO3 hB3
    go_wp2
    go_ret2
    exact⟨HB3.out,.inl ⟨HE.out,HM.out,HBl.out,.inr ⟨HI.out,by rw[HDE.out];exact .inl ⟨HK.out,gn,rfl,hgw,HO3.out⟩⟩⟩⟩
   ·have HK:=hid hno
    have HB3:=hid (HB2.out.trans (hB3.mono HB2.out.size))
    clear hno hB3
    go_wp2
    go_ret2
    exact⟨HB3.out,.inl ⟨HE.out,HM.out,HBl.out,.inr ⟨HI.out,by rw[HDE.out];exact .inr ⟨HK.out,rfl⟩⟩⟩⟩
 ·have HX:=hid hE
  have hne:(eqErr M b != 0)=true:=by simpa using hE
  clear HOK hE
  generalize hec:eqErr M b=ec at *
  have HEC:=hid hec
  clear hec
  go_wp2
  go_ret2
  exact⟨hB1,.inr ⟨by rw[HEC.out];exact HX.out,by rw[HEC.out];rfl⟩⟩
attribute [local go_sem ↓] Go.wp_at_zero Go.wp_at_succ
def prodTo (L P:List Rat):Nat→Rat
 | 0=>0
 | k+1=>prodTo L P k+L[k]?.getD 0*P[k]?.getD 0
def ProdOk (L P:List Rat):Prop:=∀k,k<L.length→FitQ (L[k]?.getD 0)∧FitQ (P[k]?.getD 0)∧FitP (prodTo L P k) (L[k]?.getD 0*P[k]?.getD 0)
theorem productQ_c (w:World) (b1 b2 n c1 c2:Nat) (es1 es2:List El) (L P:List Rat) (h1:RowQ w b1 es1 L) (h2:RowQ w b2 es2 P) (hn:n=L.length) (hn2:L.length=P.length) (hn1:n≤1000000) (hok:ProdOk L P):
  Calls Tryz.prog 158 #[.slice (some ⟨b1,0,none⟩) n c1,.slice (some ⟨b2,0,none⟩) n c2] w (ratPost (prodTo L P n) w):=by
 have H1:=hid h1
 have H2:=hid h2
 have HN:=hid hn
 have HN2:=hid hn2
 have HOK:=hid hok
 have HO0:=hid (Own.make w 122 [.bool false,.slice none 0 0,.slice none 0 0])
 have RO:=hid (fun W=>(by simpa using rationalOf_c 0 W (by omega) (by omega):Calls Tryz.prog 125 #[.int .i64 0] W (ratPost 0 W)))
 clear h1 h2 hn hn2 hok
 go_enter Tryz.func158,Tryz.ntmps158
 go_wp2_with fail
 refine(RO.out _).mono ?_
 rintro e w1 ⟨zv,rfl,hzv,hB1⟩
 obtain⟨zs,Z1,zn1,zc1,Z2,zn2,zc2,rfl⟩:=hzv.shape
 have hal0:Below w.heap.size w (w.alloc (.cells #[.bool false,.slice none 0 0,.slice none 0 0] 122)):=(Below.refl _ _).alloc (Nat.le_refl _) _
 have hB01:Below w.heap.size w w1:=hal0.trans (hB1.mono hal0.size)
 have HO1:=hid (HO0.out.below hB1 HO0.out.lt)
 have hal:Below w1.heap.size w1 (w1.alloc (.cells #[.bool zs,.slice Z1 zn1 zc1,.slice Z2 zn2 zc2] 122)):=(Below.refl _ _).alloc (Nat.le_refl _) _
 have HV:Hid (∃s B1 m1 k1 B2 m2 k2,RowQ (w1.alloc (.cells #[.bool zs,.slice Z1 zn1 zc1,.slice Z2 zn2 zc2] 122)) w1.heap.size [(s,.slice B1 m1 k1,.slice B2 m2 k2)] [prodTo L P 0]):=hid ⟨zs,Z1,zn1,zc1,Z2,zn2,zc2,Own.make w1 _ [.bool zs,.slice Z1 zn1 zc1,.slice Z2 zn2 zc2],Nat.le_refl _,fun e' he'=>by simp at he';subst he';exact⟨noInt_slice _ _ _,noInt_slice _ _ _⟩,fun i e' q h1 h2=>by
   cases i with
   | zero=>simp at h1 h2;subst h1 h2;exact hzv.below hal
   | succ i=>simp at h1⟩
 have HB2:=hid (hB01.trans (hal.mono hB01.size))
 have HO2:=hid (HO1.out.below hal HO1.out.lt)
 have hvb:w.heap.size<w1.heap.size:=HO1.out.lt
 have hRl1:=H1.out.own.lt
 have hRl2:=H2.out.own.lt
 clear hzv hB1 hal0 hB01 hal HO0 HO1 RO
 go_wp2_with fail
 obtain⟨W2,hW2⟩:∃W2,W2=w1.alloc (.cells #[.bool zs,.slice Z1 zn1 zc1,.slice Z2 zn2 zc2] 122):=⟨_,rfl⟩
 rw[←hW2] at HV HB2 HO2
 rw[←hW2]
 clear hW2
 generalize w1.heap.size=vb at *
 go_loopg [11] n (fun gh ix wx=>∃i:Nat,ix = .int .i64 i∧i+gh=n∧Hid (Below w.heap.size w wx)∧Hid (Own wx w.heap.size 122 [.bool false,.slice none 0 0,.slice none 0 0])∧Hid (∃s B1 m1 k1 B2 m2 k2,RowQ wx vb [(s,.slice B1 m1 k1,.slice B2 m2 k2)] [prodTo L P i]))
 case atStart=>exact⟨0,rfl,by omega,HB2,HO2,HV⟩
 case round=>
  clear HB2 HO2 HV
  obtain⟨i,rfl,hi,hWx,hOx,hVx⟩:=hrel
  obtain⟨vs,V1,vn1,vc1,V2,vn2,vc2,hV⟩:=hVx.out
  obtain⟨v0,v1,v2,u0,u1,u2⟩:=hV.own.three
  have hvl:=hV.own.lt
  have HV:=hid hV
  clear hV hVx
  cases gk with
  | zero=>
   have hin3:¬((i:Int)<(n:Int)):=by omega
   obtain⟨e0,e1,e2,f0,f1,f2⟩:=hOx.out.three
   have hrt:=HV.out.num 0 _ _ rfl rfl
   rw[show i=n by omega] at hrt
   have HF:=hid (ratOut (s:=[]) hrt hOx.out (ButS.of_below (hWx.out.mono (Nat.le_refl _))) (Nat.le_refl _))
   have HBf:=hid (((hWx.out.setCell (p:=⟨w.heap.size,0,none⟩) (Nat.le_refl _) (.bool vs)).setCell (p:=⟨w.heap.size,1,none⟩) (Nat.le_refl _) (.slice V1 vn1 vc1)).setCell (p:=⟨w.heap.size,2,none⟩) (Nat.le_refl _) (.slice V2 vn2 vc2))
   have hol:=hOx.out.lt
   clear hrt
   go_wp2
   exact bodyPost_ret (v:= .agg #[.bool vs,.slice V1 vn1 vc1,.slice V2 vn2 vc2]) (by simp[results,Tryz.results158,go_sem,e0,e1,e2]) rfl ⟨_,rfl,HF.out.1,HBf.out⟩
  | succ gh2=>
   have hil:i<n:=by omega
   have hil':(i:Int)<(n:Int):=by omega
   have hiL:i<L.length:=by rw[←HN.out];exact hil
   have hR1:=H1.out.below hWx.out
   have hR2:=H2.out.below hWx.out
   obtain⟨ea,A1,an1,ac1,A2,an2,ac2,zz0,hea,hrta,p0,p1,p2,zz1,zz2,zz3⟩:=hR1.at_ (j:=i) hiL
   clear zz0 zz1 zz2 zz3
   obtain⟨eb,Q1,qn1,qc1,Q2,qn2,qc2,zz0,heb,hrtb,q0,q1,q2,zz1,zz2,zz3⟩:=hR2.at_ (j:=i) (by rw[←HN2.out];exact hiL)
   clear zz0 zz1 zz2 zz3
   obtain⟨as_,a1,a2⟩:=ea
   have hea':a1 = .slice A1 an1 ac1∧a2 = .slice A2 an2 ac2:=by simpa using hea
   obtain⟨rfl,rfl⟩:=hea'
   obtain⟨bs_,b3,b4⟩:=eb
   have heb':b3 = .slice Q1 qn1 qc1∧b4 = .slice Q2 qn2 qc2:=by simpa using heb
   obtain⟨rfl,rfl⟩:=heb'
   clear hea heb
   unfold elV at hrta hrtb
   dsimp only at p0 q0 hrta hrtb
   have hb1l:=hR1.own.lt
   have hb2l:=hR2.own.lt
   obtain⟨fo1,fo2,fo3⟩:=HOK.out i hiL
   have hal3:Below wr.heap.size wr (wr.alloc (.cells #[.bool as_,.slice A1 an1 ac1,.slice A2 an2 ac2] 122)):=(Below.refl _ _).alloc (Nat.le_refl _) _
   have hPX:=Own.make wr 122 [.bool as_,.slice A1 an1 ac1,.slice A2 an2 ac2]
   have Hi:=hid hi
   go_upto_region 5 with fail
   obtain⟨W3,hW3⟩:∃W3,W3=wr.alloc (.cells #[.bool as_,.slice A1 an1 ac1,.slice A2 an2 ac2] 122):=⟨_,rfl⟩
   rw[←hW3] at hal3 hPX
   rw[←hW3]
   clear hW3
   have hV3:=HV.out.below hal3
   obtain⟨x0,x1,x2,y0,y1,y2⟩:=hV3.own.three
   obtain⟨t0,t1,t2,zz1,zz2,zz3⟩:=hPX.three
   clear zz1 zz2 zz3
   have s0:=(hal3.cell (p:=⟨b2,i*3,none⟩) hb2l).trans q0
   have s1:=(hal3.cell (p:=⟨b2,i*3+1,none⟩) hb2l).trans q1
   have s2:=(hal3.cell (p:=⟨b2,i*3+2,none⟩) hb2l).trans q2
   have hvl3:=hV3.own.lt
   have hpx3:=hPX.lt
   have hb2l3:b2<W3.heap.size:=Nat.lt_of_lt_of_le hb2l hal3.size
   have TM:=hid (fun (W:World) (h:Rt W (.agg #[.bool as_,.slice A1 an1 ac1,.slice A2 an2 ac2]) (L[i]?.getD 0)) (h':Rt W (.agg #[.bool bs_,.slice Q1 qn1 qc1,.slice Q2 qn2 qc2]) (P[i]?.getD 0))=>ratTimes_r _ _ _ _ W h h' fo1.1 fo1.2 fo2.1 fo2.2)
   have PL:=hid (fun (W:World) (u:Value) (h:Rt W (.agg #[.bool vs,.slice V1 vn1 vc1,.slice V2 vn2 vc2]) (prodTo L P i)) (h':Rt W u (L[i]?.getD 0*P[i]?.getD 0))=>ratPlus_c _ u _ _ W h h' fo3)
   have XA:=hid (hrta.below hal3)
   have XB:=hid (hrtb.below hal3)
   have XV:=hid (hV3.num 0 _ _ rfl rfl)
   have HV3:=hid hV3
   have HW3:=hid (hWx.out.trans (hal3.mono hWx.out.size))
   have HO3:=hid (hOx.out.below hal3 hOx.out.lt)
   generalize wr.heap.size=px at *
   clear v0 v1 v2 u0 u1 u2 p0 p1 p2 q0 q1 q2 hrta hrtb hR1 hR2 hal3 hPX hV3 fo1 fo2 fo3 hi HV hOx hWx hvl hb1l hb2l
   go_region_with (first
    | (go_at_call 110;refine(TM.out _ (XA.out.below (Below.refl _ _).drew) (XB.out.below (Below.refl _ _).drew)).mono ?_;rintro ee w3 ⟨tv,rfl,htv,hB3⟩;obtain⟨s5,A5,n5,c5,A6,n6,c6,rfl⟩:=htv.shape;have g0:=(hB3.cell (p:=⟨vb,0,none⟩) hvl3).trans x0;have g1:=(hB3.cell (p:=⟨vb,1,none⟩) hvl3).trans x1;have g2:=(hB3.cell (p:=⟨vb,2,none⟩) hvl3).trans x2;have i0:=(hB3.frozen (p:=⟨vb,0,none⟩) hvl3).trans y0;have i1:=(hB3.frozen (p:=⟨vb,1,none⟩) hvl3).trans y1;have i2:=(hB3.frozen (p:=⟨vb,2,none⟩) hvl3).trans y2;have hvl4:vb<w3.heap.size:=Nat.lt_of_lt_of_le hvl3 hB3.size;have HT3:=hid htv;have HB3:=hid hB3;clear htv hB3)
    | (go_at_call 108;refine(PL.out _ _ (XV.out.below (drB HB3.out)) HT3.out).mono ?_;rintro ee w4 ⟨mv,rfl,hmv,hB4⟩;obtain⟨s7,A7,n7,c7,A8,n8,c8,rfl⟩:=hmv.shape;have k0:=(hB4.cell (p:=⟨vb,0,none⟩) hvl4).trans g0;have k1:=(hB4.cell (p:=⟨vb,1,none⟩) hvl4).trans g1;have k2:=(hB4.cell (p:=⟨vb,2,none⟩) hvl4).trans g2;have l0:=(hB4.frozen (p:=⟨vb,0,none⟩) hvl4).trans i0;have l1:=(hB4.frozen (p:=⟨vb,1,none⟩) hvl4).trans i1;have l2:=(hB4.frozen (p:=⟨vb,2,none⟩) hvl4).trans i2;have HM4:=hid hmv;have HB4:=hid hB4;clear hmv hB4))
   all_goals (
    have HB14:Hid (Below W3.heap.size W3 w4):=hid ((drB HB3.out).trans (HB4.out.mono HB3.out.size))
    have HVt:Hid (∃s B1 m1 k1 B2 m2 k2,RowQ (((w4.setCell ⟨vb,0,none⟩ (.bool s7)).setCell ⟨vb,1,none⟩ (.slice A7 n7 c7)).setCell ⟨vb,2,none⟩ (.slice A8 n8 c8)) vb [(s,.slice B1 m1 k1,.slice B2 m2 k2)] [prodTo L P (i+1)]):=hid (by
     have:=(HV3.out.below HB14.out).put (j:=0) (e:=(s7,.slice A7 n7 c7,.slice A8 n8 c8)) (q:=prodTo L P (i+1)) (by simp) HM4.out
     exact⟨_,_,_,_,_,_,_,this⟩)
    have HWt:=hid ((((HW3.out.trans (HB14.out.mono HW3.out.size)).setCell (p:=⟨vb,0,none⟩) (Nat.le_of_lt hvb) (.bool s7)).setCell (p:=⟨vb,1,none⟩) (Nat.le_of_lt hvb) (.slice A7 n7 c7)).setCell (p:=⟨vb,2,none⟩) (Nat.le_of_lt hvb) (.slice A8 n8 c8))
    have hne:w.heap.size≠vb:=by omega
    have HOt:=hid ((HO3.out.below HB14.out HO3.out.lt).but (But.set3 w4 vb 0 (.bool s7) (.slice A7 n7 c7) (.slice A8 n8 c8)) hne)
    clear x0 x1 x2 y0 y1 y2 t0 t1 t2 s0 s1 s2 g0 g1 g2 i0 i1 i2 k0 k1 k2 l0 l1 l2 HM4 HT3 HB3 HB4 TM PL XA XB XV HB14 HW3 HO3 HV3 hne
    go_wp2
    go_roundg gh2
    case rel=>exact⟨i+1,by go_num,by have:=Hi.out;omega,HWt,HOt,HVt⟩
    case measure=>omega)
end Go.Proofs.YtneafcdfnhnpnaaGreatDoor
namespace Go.Proofs.YtneafcdfnhnpnaaGreatDoor
open Go.RowKit
theorem wpList_append_all_at {P:Program} (w:World) {ops:Array Oper} {rest:List Oper} {o:Oper} {a:Act} {Q:Exit→Act→World→Prop} (hgd:o.guard=none) (s x:Operand) (t:TypeId)
  (ho:o.op = .call { callee:= .builtin .append,args:= #[s,x],argTypes:= #[t,t] })
  (base:Nat) (e:TypeId) (i:TypeInfo) (z:Value) (size bytes:Nat) (ht:P.underlying t=some (.slice e)) (hi:P.info? e=some i) (hz:i.zero=some z)
  (hsize:i.size=size) (hby:i.bytes=bytes) (hzs:z.cells.size=size) (hsz:0<size)
  (v:Value) (n:Nat) (xs:List Value) (hs:a.eval s=v) (hown:w.ownsRow base e size v n xs)
  (ad:Addr) (m c:Nat) (news:List Value) (hx:a.eval x = .slice (some ad) m c) (hl:news.length=m*size) (hnews:∀j u,news[j]? =some u→w.cell? (ad.add j)=some u) (h1:∀u∈news,u.oneCell'=true)
  (h63:n+m≤maxLen) (hbytes:(n+m)*bytes≤140737488355328) (hbase:base≤w.heap.size) (hm:0<m)
  (Pc:Value→Prop) (hall:AllIn w Pc v) (hnw:∀u∈news,Pc u) (hzc:∀u∈z.cells.toList,Pc u)
  (h:∀v' w',w'.ownsRow base e size v' (n+m) (xs++news)→w.grownBy w' v.ownBlock→AllIn w' Pc v'→(v'.ownBlock=v.ownBlock∨v'.ownBlock=some w.heap.size)→wpList P ops Q rest (a.put o.dst v') w'):wpList P ops Q (o::rest) a w:=
 wpList_plain hgd fun K hK=>by
  obtain⟨v',w',hr,h2,h3,_,h5⟩:=run_append_own_at (P:=P) w base t o.type e i z size bytes ht hi hz hsize hby hzs hsz v n xs hown ad m c news hl hnews h1 h63 hbytes hbase
  have h4:=append_all w base t o.type e i z size bytes ht hi hz hsize hby hzs hsz v n xs hown ad m c news hl hnews h1 h63 hbytes hm Pc hall hnw hzc hr
  unfold Oper.wp execOp
  simp only[ho,resolve,invoke,builtin,Sem.run_bind,Sem.run_pure,Result.andThen_ok,List.map_toArray,List.map_cons,List.map_nil,hs,hx,hr]
  exact hK _ _ (h v' w' h2 h3 h4 h5)
end Go.Proofs.YtneafcdfnhnpnaaGreatDoor
