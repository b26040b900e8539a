/- Contract: Kernel. -/
import Derived.Test.YtneafcdfnhnpnaaGreatDoorZK26
import Derived.Lib.AppendZeros
set_option maxRecDepth 100000
set_option maxHeartbeats 4000000
namespace Go.Proofs.YtneafcdfnhnpnaaGreatDoor
open Go.RowKit Go.Lib
def KY (n:Nat) (M:List (List Rat)):List (List Rat):=nsBasis jm 0 1 n (kY jm n (M.map List.reverse)) n
def jM {α:Type} (M:List (List α)):Nat:=(M[0]?.map (·.length)).getD 0
theorem kA.neg0 {y:Rat} (h:kA y):kA (0-y):=by
 rw[Rat.sub_eq_add_neg,Rat.zero_add];exact⟨by rw[Rat.neg_num,Int.natAbs_neg];exact h.1,by rw[Rat.neg_den];exact h.2⟩
theorem YQ:kA 0:=⟨.small (by decide),.small (by decide)⟩
theorem Tp:kA 1:=⟨.small (by decide),.small (by decide)⟩
theorem xy.num {S:jP Rat} (h:xy S) (i j:Nat):kA (kB jm S.rows i j):=by
 unfold kB xJ
 cases hr:S.rows[i]? with
 | none=>exact YQ
 | some r=>
  simp only[Option.map_some,Option.getD_some]
  cases hx:r.2.2[j]? with
  | none=>exact YQ
  | some x=>exact h r (List.mem_of_getElem? hr) x (List.mem_of_getElem? hx)
theorem xy.nsSet {S:jP Rat} (h:xy S) (col k:Nat) (L:List Rat) (hL:∀q∈L,kA q):∀q∈nsSet jm 0 S col k L,kA q:=by
 induction k with
 | zero=>exact hL
 | succ k ih=>
  intro q hq;rw[K5] at hq;rcases List.mem_or_eq_of_mem_set hq with hq | rfl
  ·exact ih q hq
  ·exact(h.num k col).neg0
theorem xy.basis {S:jP Rat} (h:xy S) (n k:Nat):∀L∈nsBasis jm 0 1 n S k,L.length=n ∧ ∀q∈L,kA q:=by
 induction k with
 | zero=>simp[nsBasis]
 | succ k ih=>
  intro L hL;unfold nsBasis at hL;rcases List.mem_append.1 hL with hL | hL
  ·exact ih L hL
  ·split at hL
   ·cases hL
   ·obtain rfl:=List.mem_singleton.1 hL
    unfold zE;refine⟨by rw[List.length_reverse,z8];simp,fun q hq=> ?_⟩;refine h.nsSet _ _ _ (fun z hz=> ?_) q (List.mem_reverse.1 hq);rcases List.mem_or_eq_of_mem_set hz with hz | rfl
    ·rw[List.eq_of_mem_replicate hz];exact YQ
    ·exact Tp
theorem xy.same {S Z:jP Rat} (h:kt S Z) (hz:xy Z):xy S:=by
 intro r hr x hx;have h1:r.2.2∈jv S.rows:=List.mem_map_of_mem hr;rw[h.rows] at h1;obtain⟨q,hq,he⟩:=List.mem_map.1 h1;exact hz q hq x (by rw[he];exact hx)
theorem yC.mono {w w0 wr:World} {g m k:Nat} {Ls:List (List Rat)} {B:List (Nat×List jB)} (h:yC w wr g m Ls k B) (hw:w0.heap.size≤w.heap.size):yC w0 wr g m Ls k B:=
 ⟨h.own,fun r hr=>⟨Nat.le_trans hw (h.rows r hr).1,(h.rows r hr).2⟩,h.vals⟩
theorem K0 {M:List (List jB)} (h:ko M=0):M.length≤256∧jM M≤256:=by
 unfold ko at h;split at h
 ·cases h
 ·refine⟨by omega,?_⟩
  cases M with
  | nil=>simp[jM]
  | cons a t=>
   simp only[List.getElem?_cons_zero,Option.map_some,Option.getD_some,zh] at h;split at h
   ·cases h
   ·simp[jM];omega
def NL (Ls:List (List Rat)) (w:World) (e:Ending) (w':World):Prop:=
 (yS Ls ∧ ∃(g:Nat) (B:List (Nat×List jB)),e = .returned (.tuple #[.slice (some ⟨g,0,none⟩) Ls.length Ls.length,.int .i64 0])∧w.heap.size≤g∧yC w w' g Ls.length Ls Ls.length B)∨(¬yS Ls∧e = .returned (.tuple #[jr,.int .i64 4]))
def Nn (M:List (List jB)) (w:World) (e:Ending) (w':World):Prop:=
 Below w.heap.size w w'∧((ko M=0∧NL (KY (jM M) (M.map ju)) w e w')∨(ko M≠0∧e = .returned (.tuple #[jr,.int .i64 (ko M)])))
def Ua (n:Nat) (M:List (List Rat)):Prop:=zq n (M.map List.reverse)∧xy (kY jm n (M.map List.reverse))
theorem MO (v:Value) (M:List (List jB)) (w:World) (hv:ku w v M) (hT:∀r∈M,∀l∈r,xB l) (hG:jH w) (hok:ko M=0→Ua (jM M) (M.map ju)):
  Calls Tryz.prog 69 #[v] w (Nn M w):=by
 have RR:=hid (Zv v M w hv hT hG);obtain⟨A,c,rfl,_,_⟩:=hv.form;have HOK:=hid hok;have HG:=hid hG;clear hv hT hG hok;go_enter Tryz.func69,Tryz.ntmps69
 go_wp2_with fail
 refine RR.out.mono ?_;clear RR;rintro e w1 ⟨hB1,⟨hM,g,R,rfl,hg,hnew,hmx,hvals⟩ | ⟨hM,rfl⟩⟩
 ·change j6 w1 g R (jM M) at hmx
  obtain⟨hm1,hn1⟩:=K0 hM;have HM:=hid hM;obtain⟨hok1,hok2⟩:=HOK.out hM
  have hRl:R.length=M.length:=by rw[←yk R,hvals];simp
  have hv2:jv (ke List.reverse R R.length)=(M.map ju).map List.reverse:=by rw[VT,hvals]
  have hE:=hok1.rows hv2;rw[KZ] at hE
  have hS:kt (j3 jm (jM M) R.length 0 ⟨ke List.reverse R R.length,[],[],false⟩) (kY jm (jM M) ((M.map ju).map List.reverse)):=by
   have:=Q5 (F:=jm) hv2 (jM M)
   rwa [KZ] at this
  have hF:=xy.same hS hok2
  have NS:=hid (Dl g M.length (jM M) R w1 hmx (by omega) (by omega) (by omega) (fun h=>by
   have:M=[]:=List.length_eq_zero_iff.1 (by rw[←hRl,h];rfl)
   subst this;rfl) hE hF)
  rw[hRl] at NS;have HS:=hid hS;have HF:=hid hok2
  have Hbl:Hid (∀k∈g::R.map (·.1),w.heap.size≤k):=hid (fun k hk=>by
   rcases List.mem_cons.1 hk with rfl | hk
   ·exact hg
   ·obtain⟨r,hr,rfl⟩:=List.mem_map.1 hk;exact hnew r hr)
  have Hvals:=hid hvals;have HB1:=hid hB1;clear hmx hnew hvals hok1 hok2 hE hF hS hv2 hM hB1 hRl hg HOK
  go_wp2_with fail
  refine NS.out.mono ?_;clear NS;rintro e w2 ⟨v2,B,rfl,hBv,hTb,hbs⟩
  have hker:B.map (·.2)=KY (jM M) (M.map ju):=by rw[hBv,HS.out.nsBasis];rfl
  have hBl:B.length≤jM M:=by
   have h1:=congrArg List.length hBv;have h2:=Wc jm (0:Rat) 1 (jM M) (j3 jm (jM M) R.length 0 ⟨ke List.reverse R R.length,[],[],false⟩) (jM M);rw[List.length_map] at h1;omega
  have hRA:=hTb.rowsAt (by omega);rw[hker] at hRA;have hB2:Below w.heap.size w w2:=HB1.out.trans (hbs.toBelow Hbl.out HB1.out.size);have hkb:=HF.out.basis (jM M) (jM M);have WR:=hid (FM v2 (KY (jM M) (M.map ju)) w2 hRA (by rw[←hker,List.length_map];omega) (fun L hL=>⟨by have:=(hkb L hL).1;omega,(hkb L hL).2⟩) (HG.out.below hB2));have HB2:=hid hB2;obtain⟨A9,k9,rfl,_,_⟩:=j8 hTb.1;clear hBv hTb hbs hker hRA hkb hB2;generalize hKe:KY (jM M) (M.map ju)=K at *;have HKe:=hid hKe;clear hKe
  go_wp2_with fail
  refine WR.out.mono ?_;clear WR;rintro e w3 ⟨hB3,⟨hsh,g3,B3,rfl,hg3,hT3⟩ | ⟨hsh,rfl⟩⟩
  ·have HX:=hid hsh
   have HT3:=hid hT3;have HB3:=hid (HB2.out.trans (hB3.mono HB2.out.size));have hgg:w.heap.size≤g3:=Nat.le_trans HB2.out.size hg3;clear hsh hT3 hB3
   go_wp2
   go_ret2;exact⟨HB3.out,.inl ⟨HM.out,by rw[HKe.out];exact .inl ⟨HX.out,g3,B3,rfl,hgg,HT3.out.mono HB2.out.size⟩⟩⟩
  ·have HX:=hid hsh
   have HB3:=hid (HB2.out.trans (hB3.mono HB2.out.size));clear hsh hB3
   go_wp2
   go_ret2;exact⟨HB3.out,.inl ⟨HM.out,by rw[HKe.out];exact .inr ⟨HX.out,rfl⟩⟩⟩
 ·have HX:=hid hM
  have hne:(ko M != 0)=true:=by simpa using hM
  clear HOK hM;generalize hec:ko M=ec at *;have HEC:=hid hec;clear hec
  go_wp2
  go_ret2;exact⟨hB1,.inr ⟨by rw[HEC.out];exact HX.out,by rw[HEC.out];rfl⟩⟩
theorem S2 (es:List El) (n:Nat):jz (es.take n)=(jz es).take (n*3):=by
 induction es generalizing n with
 | nil=>simp[jz]
 | cons e t ih=>
  cases n with
  | zero=>simp[jz]
  | succ n=>
   rw[List.take_succ_cons,show (n+1)*3=n*3+1+1+1 by omega];simp only[jz,List.take_succ_cons,ih]
theorem U6 (A B:List El) {c:Nat} (h:A.length+B.length≤c):
  (jz (A++List.replicate (c-A.length) j7)).take (A.length*3)++jz B++(jz (A++List.replicate (c-A.length) j7)).drop (A.length*3+(jz B).length)=jz ((A++B)++List.replicate (c-(A++B).length) j7):=by
 rw[y7,List.take_left' (by rw[qB])]
 have hz:List.replicate (c-A.length) j7=List.replicate B.length j7++List.replicate (c-(A++B).length) j7:=by
  rw[List.replicate_append_replicate];congr 1;rw[List.length_append];omega
 rw[hz,y7,←List.append_assoc (jz A),List.drop_left' (by rw[List.length_append,qB,qB,qB,List.length_replicate]),y7,y7]
theorem Mj (n:Nat):Builtin.zeroCells yg.cells n=(jz (List.replicate n j7)).toArray:=by
 apply Array.toList_inj.1;rw[←VK];rfl
theorem TJ (n:Nat) (w:World) (h0:0<n) (hn:n≤1000001):
  Calls Tryz.prog 237 #[.slice none 0 0,.int .i64 n] w fun e w'=>∃cap,e = .returned (.slice (some ⟨w.heap.size,0,none⟩) 0 cap)∧n≤cap∧cap≤maxLen∧ja w' w.heap.size 122 (jz (List.replicate cap j7))∧Below w.heap.size w w':=by
 obtain⟨i,hi,hz,hs,hb⟩:=info_parts KV
 have hrun:=fun ty=>run_append_nil_zeros (P:=Tryz.prog) w 167 3 ty 122 i yg .i64 .i64 Tryz.underlying167 Tryz.underlying3 hi hz n h0 (by omega) (by omega) (by rw[hb];omega)
 have hge:=grownCap_ge w n 0 122;have hle:=grownCap_le_maxLen w n 0 122 (by unfold maxLen;omega);generalize grownCap w n 0 122=cap at *;have hO:=ja.make w.drew 122 (jz (List.replicate cap j7));rw[show w.drew.heap.size=w.heap.size from rfl] at hO
 have hc:Builtin.zeroCells yg.cells n++Builtin.zeroCells yg.cells (cap-n)=(jz (List.replicate cap j7)).toArray:=by
  rw[Mj,Mj,List.append_toArray,←y7,List.replicate_append_replicate,show n+(cap-n)=cap by omega]
 rw[hc] at hrun;have Hrun:=hid hrun;have HO:=hid hO;clear hrun hc hO hi hz hs hb;go_enter Tryz.func237,Tryz.ntmps237
 go_wp2_with (at_builtin;(refine Lib.wpList_append_run _ rfl _ _ _ _ rfl _ _ rfl rfl _ _ (Hrun.out _) ?_))
 go_ret;exact⟨cap,rfl,hge,hle,HO.out,(Below.refl w.heap.size w).drew.alloc (Nat.le_refl _) _⟩
def RN (Lx:List Rat) (w:World) (e:Ending) (w':World):Prop:=
 ∃g cap es,e = .returned (.slice (some ⟨g,0,none⟩) Lx.length cap)∧w.heap.size≤g∧Lx.length≤cap∧cap≤maxLen∧jo w' g es Lx∧Below w.heap.size w w'
theorem RQ (w:World) (bl b1 b2 n c0 c1 c2 o:Nat) (es1 es2:List El) (L P:List Rat) (hl:ja w bl 167 [.slice (some ⟨b1,0,none⟩) n c1,.slice (some ⟨b2,o*3,none⟩) 1 c2])
  (h1:jo w b1 es1 L) (hn:n=L.length) (hn2:n≤1000000) (_hc0:2≤c0) (h2:jo w b2 es2 P) (ho:o<P.length):
  Calls Tryz.prog 207 #[.slice (some ⟨bl,0,none⟩) 2 c0] w (RN (L++[P[o]?.getD 0]) w):=by
 obtain⟨i,hi,hz,hs,hb⟩:=info_parts KV;have hcl0:=hl.cell 0;have hcl1:=hl.cell 1;simp only[List.getElem?_cons_zero,List.getElem?_cons_succ] at hcl0 hcl1;have hll:=hl.lt;obtain⟨e,A1,n1,d1,A2,n2,d2,he,hee,hrt,y0,y1,y2,zz0,zz1,zz2⟩:=h2.at_ ho;clear zz0 zz1 zz2;obtain⟨e0,ea,eb⟩:=e
 have hea:ea = .slice A1 n1 d1∧eb = .slice A2 n2 d2:=by simpa using hee
 obtain⟨rfl,rfl⟩:=hea;clear hee;dsimp only at y0
 obtain⟨x,hx⟩:∃x,x=P[o]?.getD 0:=⟨_,rfl⟩
 rw[←hx] at hrt ⊢
 have hlen1:n≤es1.length:=by rw[hn];exact h1.len
 obtain⟨E1,hE1⟩:∃E1,E1=es1.take n:=⟨_,rfl⟩
 have hE1l:E1.length=n:=by rw[hE1];simp;omega
 have hnews1:∀(W:World),Below w.heap.size w W → ∀j u,(jz E1)[j]? =some u→W.cell? ((⟨b1,0,none⟩:Addr).add j)=some u:=by
  intro W hB j u hu
  have ea:((⟨b1,0,none⟩:Addr).add j)=⟨b1,j,none⟩:=by
   unfold Addr.add;split
   ·subst j;rfl
   ·simp
  rw[ea,hB.cell (p:=⟨b1,j,none⟩) h1.own.lt,h1.own.cell j];rw[hE1,S2,List.getElem?_take] at hu;split at hu
  ·exact hu
  ·cases hu
 have hone1:∀u∈jz E1,u.oneCell'=true:=by
  intro u hu
  have hno:∀a∈E1,∃B1 m1 k1 B2 m2 k2,a.2.1=Value.slice B1 m1 k1∧a.2.2=Value.slice B2 m2 k2:=by
   intro a ha;rw[hE1] at ha;obtain⟨j,hj⟩:=List.mem_iff_getElem?.1 ha;rw[List.getElem?_take] at hj;split at hj
   ·rename_i hjn
    obtain⟨q,hq⟩:∃q,L[j]? =some q:=⟨L[j]'(by omega),List.getElem?_eq_getElem _⟩
    obtain⟨s,B1,m1,k1,B2,m2,k2,hsh⟩:=(h1.num j a q hj hq).shape;simp[kX] at hsh;exact⟨B1,m1,k1,B2,m2,k2,hsh.2.1,hsh.2.2⟩
   ·cases hj
  clear hE1 hE1l hnews1
  induction E1 with
  | nil=>cases hu
  | cons a t ih=>
   obtain⟨B1,m1,k1,B2,m2,k2,h3,h4⟩:=hno a (by simp);simp only[jz,List.mem_cons] at hu;rcases hu with rfl | rfl | rfl | hu
   ·rfl
   ·rw[h3];rfl
   ·rw[h4];rfl
   ·exact ih hu (fun b hb=>hno b (by simp[hb]))
 have hnews2:∀(W:World),Below w.heap.size w W → ∀j u,(jz [((e0,.slice A1 n1 d1,.slice A2 n2 d2):El)])[j]? =some u→W.cell? ((⟨b2,o*3,none⟩:Addr).add j)=some u:=by
  intro W hB j u hu;have hb2:=h2.own.lt;rcases j with _ | _ | _ | j
  ·simp[jz] at hu;subst hu;exact(hB.cell (p:=⟨b2,o*3,none⟩) hb2).trans y0
  ·simp[jz] at hu;subst hu;exact(hB.cell (p:=⟨b2,o*3+1,none⟩) hb2).trans y1
  ·simp[jz] at hu;subst hu;exact(hB.cell (p:=⟨b2,o*3+2,none⟩) hb2).trans y2
  ·simp[jz] at hu
 have hfin:∀(W:World) (g cap:Nat),Below w.heap.size w W→ja W g 122 (jz ((E1++[(e0,.slice A1 n1 d1,.slice A2 n2 d2)])++List.replicate (cap-(n+1)) j7))→jo W g ((E1++[(e0,.slice A1 n1 d1,.slice A2 n2 d2)])++List.replicate (cap-(n+1)) j7) (L++[x]):=by
  intro W g cap hB hO;refine⟨hO,by simp[hE1l];omega,fun a ha=> ?_,fun j a q ha hq=> ?_⟩
  ·simp only[List.mem_append,List.mem_singleton] at ha
   rcases ha with (ha | ha) | ha
   ·exact h1.noi a (by rw[hE1] at ha;exact List.mem_of_mem_take ha)
   ·subst ha;exact⟨jq _ _ _,jq _ _ _⟩
   ·rw[List.eq_of_mem_replicate ha];exact⟨jq _ _ _,jq _ _ _⟩
  ·have hj:j<(L++[x]).length:=(List.getElem?_eq_some_iff.1 hq).1
   rw[List.length_append,List.length_singleton] at hj;rw[List.getElem?_append_left (by simp[hE1l];omega)] at ha;rcases Nat.lt_or_ge j n with hjn | hjn
   ·rw[List.getElem?_append_left (by omega)] at ha
    rw[List.getElem?_append_left (by omega)] at hq;rw[hE1,List.getElem?_take,if_pos hjn] at ha;exact(h1.num j a q ha hq).below hB
   ·have:j=n:=by omega
    subst this;rw[List.getElem?_append_right (by omega),hE1l] at ha;rw[List.getElem?_append_right (by omega),←hn] at hq;simp at ha hq;subst ha hq;exact hrt.below hB
 have Hfin:=hid hfin;have Hn1:=hid hnews1;have Hn2:=hid hnews2;have Ho1:=hid hone1;have HE1l:=hid hE1l;have HnL:Hid ((L++[x]).length=n+1):=hid (by simp[hn]);have Hs:=hid hs;have Hi:=hid hi;have GR:=hid (fun W=>TJ (n+1) W (by omega) (by omega));clear hfin hnews1 hnews2 hone1 hE1l hE1 hrt he y0 y1 y2 h1 h2 ho hn hlen1 hx hi hz hs hb;generalize hel:((e0,.slice A1 n1 d1,.slice A2 n2 d2):El)=el at *;have Hone2:Hid (∀u∈jz [el],u.oneCell'=true):=hid (by rw[←hel];exact K8 _ _ _ _ _ _ _);clear hel;go_enter Tryz.func207,Tryz.ntmps207
 go_wp2_with fail
 go_loopg [3,11] 2 (fun gh s i wr=>(∃k sz:Nat,i = .int .i64 k∧s = .int .i64 sz∧k+gh=2∧(sz=if k=0 then 0 else if k=1 then n else n+1))∧w=wr)
 case atStart=>exact⟨⟨0,0,rfl,rfl,rfl,rfl⟩,rfl⟩
 case round=>
  obtain⟨⟨k,sz,rfl,rfl,hk,hsz⟩,rfl⟩:=hrel;rcases gk with _ | _ | _ | gk
  ·obtain rfl:k=2:=by omega
   have hsz2:sz=n+1:=hsz;subst hsz2;clear hsz;have GR2:=hid (GR.out w)
   go_wp2_with (go_at_call 237;refine GR2.out.mono ?_;rintro ee w1 ⟨cap,rfl,hc1,hc2,hO,hB⟩)
   have HO0:Hid (ja w1 w.heap.size 122 (jz ([]++List.replicate (cap-([]:List El).length) j7))):=hid hO;have HB:=hid hB;clear hO hB GR GR2;unfold maxLen at hc2
   go_loopg [6,27] 2 (fun gh v i wr=>(∃(k:Nat) (E:List El),i = .int .i64 k∧v = .slice (some ⟨w.heap.size,0,none⟩) E.length cap∧k+gh=2∧Hid (E=if k=0 then [] else if k=1 then E1 else E1++[el])∧Hid (ja wr w.heap.size 122 (jz (E++List.replicate (cap-E.length) j7))))∧Hid (Below w.heap.size w wr))
   case atStart=>exact⟨⟨0,[],rfl,rfl,rfl,hid rfl,HO0⟩,HB⟩
   case round=>
    clear HO0 HB;obtain⟨⟨k,E,rfl,rfl,hk2,hE,hO⟩,hB⟩:=hrel;rcases gk with _ | _ | _ | gk
    ·obtain rfl:k=2:=by omega
     have hE2:Hid (E=E1++[el]):=hid hE.out;have hEl:Hid (E.length=n+1):=hid (by rw[hE2.out,List.length_append,HE1l.out];rfl);clear hE
     go_wp2
     go_ret;have hO':=hO.out;rw[hEl.out,hE2.out] at hO';exact⟨w.heap.size,cap,_,by rw[HnL.out,←hEl.out];rfl,Nat.le_refl _,by rw[HnL.out];exact hc1,by unfold maxLen;exact hc2,Hfin.out _ _ _ hB.out hO',hB.out⟩
    ·obtain rfl:k=1:=by omega
     have hE2:Hid (E=E1):=hid hE.out;have hEl:Hid (E.length=n):=hid (by rw[hE2.out,HE1l.out]);have hcell:=(hB.out.cell (p:=⟨bl,1,none⟩) hll).trans hcl1;have hgl:=hO.out.lt;have hllr:bl<wr.heap.size:=Nat.lt_of_lt_of_le hll hB.out.size;have Hrun:=hid (fun ty=>run_append_room (P:=Tryz.prog) wr 167 ty 122 i Tryz.underlying167 Hi.out w.heap.size E.length cap _ hO.out ⟨b2,o*3,none⟩ 1 c2 (jz [el]) (by rw[qB,Hs.out];rfl) (Hn2.out _ hB.out) Hone2.out (by rw[hEl.out];exact hc1) (by rw[Hs.out];simp[qB,hEl.out];omega));rw[Hs.out] at Hrun;have hsp:=U6 E [el] (c:=cap) (by rw[hEl.out];exact hc1)
     have Hrun2:Hid (∀ty,(Builtin.append_ #[167,167] ty #[.slice (some ⟨w.heap.size,0,none⟩) E.length cap,.slice (some ⟨b2,o*3,none⟩) 1 c2]).run Tryz.prog wr = .ok (.slice (some ⟨w.heap.size,0,none⟩) (E++[el]).length cap) (wr.setRow w.heap.size (jz ((E++[el])++List.replicate (cap-(E++[el]).length) j7)).toArray)):=hid (by
      intro ty;have h:=Hrun.out ty;rw[List.toList_toArray,hsp] at h
      rw[h,List.length_append];rfl)
     have HO2:Hid (ja (wr.setRow w.heap.size (jz ((E++[el])++List.replicate (cap-(E++[el]).length) j7)).toArray) w.heap.size 122 (jz ((E++[el])++List.replicate (cap-(E++[el]).length) j7))):=hid (setRow_heap wr w.heap.size _ _ 122 (0,0) hO.out);have HB2:Hid (Below w.heap.size w (wr.setRow w.heap.size (jz ((E++[el])++List.replicate (cap-(E++[el]).length) j7)).toArray)):=hid (below_setRow hB.out (Nat.le_refl _) _);clear hsp Hrun hO hB
     obtain⟨E2,hE22⟩:∃E2,E2=E++[el]:=⟨_,rfl⟩
     rw[←hE22] at Hrun2 HO2 HB2;have HE22:Hid (E2=E1++[el]):=hid (by rw[hE22,hE2.out]);clear hE22
     go_wp2_with (at_builtin;(refine Lib.wpList_append_run _ rfl _ _ _ _ rfl _ _ rfl rfl _ _ (Hrun2.out _) ?_))
     go_roundg 0
     case rel=>exact⟨⟨2,E2,by go_num,rfl,rfl,hid (by rw[HE22.out];rfl),HO2⟩,HB2⟩
     case measure=>omega
    ·obtain rfl:k=0:=by omega
     have hE2:E=[]:=hE.out;subst hE2;have hcell:=(hB.out.cell (p:=⟨bl,0,none⟩) hll).trans hcl0;have hgl:=hO.out.lt;have hllr:bl<wr.heap.size:=Nat.lt_of_lt_of_le hll hB.out.size;have Hrun:=hid (fun ty=>run_append_room (P:=Tryz.prog) wr 167 ty 122 i Tryz.underlying167 Hi.out w.heap.size ([]:List El).length cap _ hO.out ⟨b1,0,none⟩ n c1 (jz E1) (by rw[qB,Hs.out,HE1l.out]) (Hn1.out _ hB.out) Ho1.out (by simp;omega) (by rw[Hs.out];simp[qB,HE1l.out];omega));rw[Hs.out] at Hrun;have hsp:=U6 [] E1 (c:=cap) (by rw[HE1l.out];simp;omega)
     have Hrun2:Hid (∀ty,(Builtin.append_ #[167,167] ty #[.slice (some ⟨w.heap.size,0,none⟩) 0 cap,.slice (some ⟨b1,0,none⟩) n c1]).run Tryz.prog wr = .ok (.slice (some ⟨w.heap.size,0,none⟩) E1.length cap) (wr.setRow w.heap.size (jz (E1++List.replicate (cap-E1.length) j7)).toArray)):=hid (by
      intro ty;have h:=Hrun.out ty;rw[List.toList_toArray,hsp] at h;simp only[List.length_nil,Nat.zero_add,List.nil_append] at h;rw[HE1l.out] at *
      exact h)
     have HO2:Hid (ja (wr.setRow w.heap.size (jz (E1++List.replicate (cap-E1.length) j7)).toArray) w.heap.size 122 (jz (E1++List.replicate (cap-E1.length) j7))):=hid (setRow_heap wr w.heap.size _ _ 122 (0,0) hO.out);have HB2:Hid (Below w.heap.size w (wr.setRow w.heap.size (jz (E1++List.replicate (cap-E1.length) j7)).toArray)):=hid (below_setRow hB.out (Nat.le_refl _) _);clear hsp Hrun hO hB hE
     go_wp2_with (at_builtin;(refine Lib.wpList_append_run _ rfl _ _ _ _ rfl _ _ rfl rfl _ _ (Hrun2.out _) ?_))
     go_roundg 1
     case rel=>exact⟨⟨1,E1,by go_num,rfl,rfl,hid rfl,HO2⟩,HB2⟩
     case measure=>omega
    ·omega
  ·obtain rfl:k=1:=by omega
   have hsz2:sz=n:=hsz;subst hsz2;clear hsz
   go_wp2
   go_roundg 0
   case rel=>exact⟨⟨2,sz+1,by go_num,by go_num,rfl,rfl⟩,rfl⟩
   case measure=>omega
  ·obtain rfl:k=0:=by omega
   have hsz2:sz=0:=hsz;subst hsz2;clear hsz
   go_wp2
   go_roundg 1
   case rel=>exact⟨⟨1,n,by go_num,by first | rfl | simp | go_num,rfl,rfl⟩,rfl⟩
   case measure=>omega
  ·omega
def xV (M:List (List Rat)) (b:List Rat):List (List Rat):=M.mapIdx fun i L=>L++[b[i]?.getD 0]
theorem Ni {M:List (List Rat)} {b:List Rat} {i:Nat} {L:List Rat} (h:M[i]? =some L):(xV M b)[i]? =some (L++[b[i]?.getD 0]):=by unfold xV;rw[List.getElem?_mapIdx,h];rfl
theorem Nj (M:List (List Rat)) (b:List Rat):(xV M b).length=M.length:=by simp[xV]
def yi (S:jP Rat) (n k:Nat):List Rat:=(List.range k).foldl (fun l i=>l.set (S.cols[i]?.getD 0) (kB jm S.rows i n)) (List.replicate n 0)
theorem XK (S:jP Rat) (n k:Nat):yi S n (k+1)=(yi S n k).set (S.cols[k]?.getD 0) (kB jm S.rows k n):=by unfold yi;rw[List.range_succ,List.foldl_append];rfl
theorem ZF (S:jP Rat) (n k:Nat):(yi S n k).length=n:=by
 induction k with
 | zero=>simp[yi]
 | succ k ih=>rw[XK,List.length_set,ih]
theorem CX {S Z:jP Rat} (h:kt S Z) (n k:Nat):yi S n k=yi Z n k:=by
 induction k with
 | zero=>rfl
 | succ k ih=>rw[XK,XK,ih,h.cols,Xm h.rows]
def ZG (n:Nat) (M:List (List Rat)) (b:List Rat) (w:World) (e:Ending) (w':World):Prop:=
 Below w.heap.size w w'∧((n∈(kY jm (n+1) (xV M b)).cols∧e = .returned (.tuple #[jr,.bool false])) ∨
  (n ∉ (kY jm (n+1) (xV M b)).cols ∧ ∃g es,e = .returned (.tuple #[.slice (some ⟨g,0,none⟩) n n,.bool true])∧w.heap.size≤g∧jo w' g es (yi (kY jm (n+1) (xV M b)) n (kY jm (n+1) (xV M b)).cols.length)))
theorem CY (g c n bR cR:Nat) (R:List jI) (esR:List El) (b:List Rat) (w:World) (hM:j6 w g R n) (hc:R.length≤c) (hc2:c≤1000000) (hn:n≤999999) (h0:R=[]→n=0)
  (hb:jo w bR esR b) (hbl:b.length=R.length) (hcR:b.length≤cR) (hcR2:cR≤9223372036854775807) (hok:zq (n+1) (xV (jv R) b)):
  Calls Tryz.prog 154 #[.iface 172 (.agg #[]),.slice (some ⟨g,0,none⟩) R.length c,.slice (some ⟨bR,0,none⟩) R.length cR] w (ZG n (jv R) b w):=by
 obtain⟨M,hMe⟩:∃M,M=xV (jv R) b:=⟨_,rfl⟩
 have hMl:M.length=R.length:=by rw[hMe,Nj,yk]
 have HM:=hid hM;have HB:=hid hb;have HBl:=hid hbl;have HOK:Hid (zq (n+1) M):=hid (by rw[hMe];exact hok);have HME:=hid hMe;have HMl:=hid hMl;have hmk:=VN w R.length (by omega)
 have WD:Hid (Calls Tryz.prog 159 #[.slice (some ⟨g,0,none⟩) R.length c] w fun e w'=>e = .returned (.int .i64 (n:Int))∧w=w'):=hid (by
  have h:=Qr g c n R w hM;by_cases hR:R=[]
  ·rw[if_pos hR] at h;rw[h0 hR];exact h
  ·rw[if_neg hR] at h;exact h)
 have HS0:Hid (qU w (w.alloc (.cells (List.replicate R.length jr).toArray 167)) w.heap.size (n+1) M 0 []):=hid (by have:=qU.start w M (n+1);rw[hMl] at this;exact this)
 have hcRR:R.length≤cR:=by omega
 clear hM hb hbl hok hMe hMl hcR h0;go_enter Tryz.func154,Tryz.ntmps154
 go_wp2_with (go_at_call 159;refine WD.out.mono ?_;rintro e w' ⟨rfl,rfl⟩)
 clear hmk WD
 go_loopg [22] R.length (fun gh i wr=>∃(k:Nat) (J:List jI),i = .int .i64 k∧k+gh=R.length∧Hid (qU w wr w.heap.size (n+1) M k J)∧Hid (Below w.heap.size w wr))
 case atStart=>exact⟨0,[],rfl,by omega,HS0,hid ((Below.refl _ _).alloc (Nat.le_refl _) _)⟩
 case round=>
  clear HS0;obtain⟨k,J,rfl,hk,hJ,hW⟩:=hrel
  cases gk with
  | succ gh=>
   have hlt:k<R.length:=by omega
   have hlt':(k:Int)<(R.length:Int):=by omega
   obtain⟨r,hr⟩:∃r,R[k]? =some r:=⟨R[k],List.getElem?_eq_getElem hlt⟩
   have hMr:=HM.out.below hW.out;have hck:=hMr.cellRow hr;have hgl:=hMr.own.lt;obtain⟨⟨es,hro⟩,hrl,hrc1,hrc2⟩:=hMr.row _ (List.mem_of_getElem? hr);have hJl:=hJ.out.own.lt
   have hjk:=(hJ.out.own.cell k)
   rw[List.getElem?_append_right (by rw[List.length_map,hJ.out.len (by rw[HMl.out];omega)];omega),List.length_map,hJ.out.len (by rw[HMl.out];omega),Nat.sub_self,HMl.out,show R.length-k=(R.length-(k+1))+1 by omega,List.replicate_succ,List.getElem?_cons_zero] at hjk;have hjf:=hJ.out.own.free k;have HMk:Hid (M[k]? =some (r.2.2++[b[k]?.getD 0])):=hid (by rw[HME.out];exact Ni (by unfold jv;rw[List.getElem?_map,hr];rfl));have Hk:=hid hk;have Hrl:=hid hrl
   have hal:∀o:Obj,Below wr.heap.size wr (wr.alloc o):=fun o=>(Below.refl _ _).alloc (Nat.le_refl _) _
   have CC:=hid (RQ (wr.alloc (.cells #[.slice (some ⟨r.1,0,none⟩) n r.2.1,.slice (some ⟨bR,k*3,none⟩) 1 (cR-k)] 167)) wr.heap.size r.1 bR n 2 r.2.1 (cR-k) k es esR r.2.2 b (ja.make wr _ [.slice (some ⟨r.1,0,none⟩) n r.2.1,.slice (some ⟨bR,k*3,none⟩) 1 (cR-k)]) (hro.below (hal _)) hrl.symm (by omega) (Nat.le_refl _) ((HB.out.below hW.out).below (hal _)) (by rw[HBl.out];exact hlt));clear hk hr hro hrl hMr hal;obtain⟨kb,kc,kl⟩:=r;unfold kK at hck;dsimp only at hck hrc1 hrc2 CC HMk Hrl;generalize hx:kl++[b[k]?.getD 0]=X at *;have HXl:Hid (X.length=n+1):=hid (by rw[←hx,List.length_append,Hrl.out];rfl);clear hx
   go_wp2_with fail
   refine CC.out.mono ?_;clear CC;rintro e w3 ⟨gn,cn,es3,rfl,hgn,hcn1,hcn2,hR3,hB3⟩;rw[HXl.out] at hcn1 ⊢;unfold maxLen at hcn2;have hB13:Below wr.heap.size wr w3:=((Below.refl wr.heap.size wr).alloc (Nat.le_refl _) _).trans (hB3.mono (by simp));have hjk3:=(hB13.cell (p:=⟨w.heap.size,k,none⟩) hJl).trans hjk;have hjf3:=(hB13.frozen (p:=⟨w.heap.size,k,none⟩) hJl).trans hjf;have hJl3:w.heap.size<w3.heap.size:=Nat.lt_of_lt_of_le hJl hB13.size;have HJ2:=hid (hJ.out.step (cn:=cn) HMk.out HXl.out hcn1 hcn2 hB13 (by simp at hgn;omega) (by have:=hW.out.size;simp at hgn;omega) hR3);have HW2:=hid ((hW.out.trans (hB13.mono hW.out.size)).setCell (p:=⟨w.heap.size,k,none⟩) (Nat.le_refl _) (.slice (some ⟨gn,0,none⟩) (n+1) cn));clear hR3 hB3 hB13 hJ hW hjk hjf hck
   go_wp2
   go_roundg gh
   case rel=>exact⟨k+1,_,by go_num,by have:=Hk.out;omega,HJ2,HW2⟩
   case measure=>omega
  | zero=>
   have hkR:k=R.length:=by omega
   have hin:¬((k:Int)<(R.length:Int)):=by omega
   have hJd:=(show qU w wr w.heap.size (n+1) M M.length J by have:=hJ.out;rw[hkR,←HMl.out] at this;exact this).done;have HJn:=hid hJ.out.new;have HJM:=hid hJd.1;have HJv:=hid hJd.2.1;have HJl:Hid (J.length=R.length):=hid (by rw[hJd.2.2,HMl.out])
   have EL:Hid (Calls Tryz.prog 147 #[.iface 172 (.agg #[]),.slice (some ⟨w.heap.size,0,none⟩) R.length R.length] wr (Q4 (n+1) w.heap.size R.length J wr)):=hid (by
    have h:=YK w.heap.size R.length (n+1) J wr HJM.out (by rw[HJl.out];exact Nat.le_refl _) (by omega) (by omega) (HOK.out.rows HJv.out);rw[HJl.out] at h
    exact h)
   clear hJd hJ hk
   go_wp2_with fail
   refine EL.out.mono ?_;clear EL;rintro e w1 ⟨S,hS,cv,pv,rfl,hM1,hcv,hpv,hl1,hl2,hl3,hpm,hbs⟩;obtain⟨A1,k1,rfl,_,_⟩:=j8 hcv;obtain⟨A2,k2,rfl,_,_⟩:=hpv.form;have HSame:Hid (kt S (kY jm (n+1) M)):=hid (by rw[hS];exact Q5 HJv.out _);have Hcl:Hid (∀c∈S.cols,c<n+1):=hid (by rw[hS];exact YH _ _ _ (by omega) (by simp));have HM1:=hid hM1;have Hcv:=hid hcv;have Hl1:=hid hl1;have Hl2:=hid hl2;have Hl3:=hid (hl3.trans HJl.out)
   have HWB:Hid (Below w.heap.size w w1):=hid (hW.out.trans (hbs.toBelow (fun k hk=>by
    rcases List.mem_cons.1 hk with rfl | hk
    ·exact Nat.le_refl _
    ·obtain⟨r,hr,rfl⟩:=List.mem_map.1 hk
     exact HJn.out r hr) hW.out.size))
   clear hS hM1 hcv hpv hl1 hl2 hl3 hpm hbs hW HJn HJM HJv;have hofm:=Zp
   have hcl1:S.cols.length≤1000000:=by have:=Hl1.out;have:=Hl2.out;have:=Hl3.out;omega
   obtain⟨W0,hW0⟩:∃W0,W0=w1.alloc (.cells #[.slice (some ⟨w.heap.size,0,none⟩) S.piv.length R.length,.slice A1 S.cols.length k1,.slice A2 S.piv.length k2,.bool S.odd] 169):=⟨_,rfl⟩
   have hX:Hid (ja W0 w1.heap.size 169 [.slice (some ⟨w.heap.size,0,none⟩) S.piv.length R.length,.slice A1 S.cols.length k1,.slice A2 S.piv.length k2,.bool S.odd]):=hid (by rw[hW0];exact ja.make _ _ _)
   have ha:Below w1.heap.size w1 W0:=by rw[hW0];exact(Below.refl _ _).alloc (Nat.le_refl _) _
   have HM2:=hid (HM1.out.below ha);have Hcv2:=hid (kC Hcv.out ha);have HW0B:=hid (HWB.out.trans (ha.mono HWB.out.size));clear ha HM1 Hcv HWB
   go_wp2_with fail
   rw[←hW0];clear hW0;refine(Xo _).mono ?_;rintro e w2 ⟨zv,rfl,hzv,hB2⟩;obtain⟨zs,Z1,zn1,zc1,Z2,zn2,zc2,rfl⟩:=hzv.shape;have HF:=hid (Vh _ 0 _ n (by omega) hzv);clear hzv
   go_wp2_with fail
   refine HF.out.mono ?_;rintro e w3 ⟨gl,es3,rfl,hgl,hO3,hB3⟩;have HB3:=hid (hB2.trans (hB3.mono hB2.size));have hglW:W0.heap.size≤gl:=Nat.le_trans hB2.size hgl;have HO3:Hid (∃es',jo w3 gl es' (yi S n 0)):=hid ⟨es3,hO3⟩;have hX3:=hX.out.below HB3.out hX.out.lt;obtain⟨x0,x1,x2,x3,y0,y1,y2,y3⟩:=hX3.four;have hXl:=hX.out.lt;clear hB2 hB3 hO3 HF hX3 hgl
   go_wp2_with fail
   clear x0 x1 x2 x3 y0 y1 y2 y3
   go_loopg [6,49] S.cols.length (fun gh2 sv ix wx=>∃i:Nat,ix = .int .i64 i∧sv = .slice (some ⟨gl,0,none⟩) n n∧i+gh2=S.cols.length∧Hid (Below W0.heap.size W0 wx)∧Hid (∃es',jo wx gl es' (yi S n i))∧Hid (∀j<i,S.cols[j]?.getD 0≠n))
   case atStart=>exact⟨0,rfl,rfl,by omega,HB3,HO3,hid (fun j hj=>by omega)⟩
   case round=>
    clear HB3 HO3;obtain⟨i,rfl,rfl,hi,hWx,hOx,hne⟩:=hrel
    cases gk with
    | zero=>
     have hin3:¬((i:Int)<(S.cols.length:Int)):=by omega
     have hnot:n ∉ (kY jm (n+1) M).cols:=by
      rw[←HSame.out.cols];intro hm;obtain⟨j,hj⟩:=List.mem_iff_getElem?.1 hm;have hjl:=(List.getElem?_eq_some_iff.1 hj).1;exact hne.out j (by omega) (by rw[hj];rfl)
     have hOf:=hOx.out;rw[show i=S.cols.length by omega,CX HSame.out,HSame.out.cols] at hOf;have HOf:=hid hOf;have Hnot:=hid hnot;clear hOf hnot hOx hne
     go_wp2
     go_ret2;unfold ZG;rw[←HME.out];obtain⟨es',h'⟩:=HOf.out;exact⟨HW0B.out.trans (hWx.out.mono HW0B.out.size),.inr ⟨Hnot.out,gl,es',rfl,by have:=HW0B.out.size;omega,h'⟩⟩
    | succ gh2=>
     have hil:i<S.cols.length:=by omega
     have hil':(i:Int)<(S.cols.length:Int):=by omega
     have hilp:i<S.piv.length:=by have:=Hl1.out;omega
     obtain⟨cb,hA,_,hcbl,hcc⟩:=Ja (kC Hcv2.out hWx.out) (j:=i) hil;have c3:wr.cell? ⟨cb,i,none⟩=some (.int .i64 ((S.cols[i]?.getD 0:Nat):Int)):=(hcc i hil).trans (by simp[jp,hil]);have hci:S.cols[i]?.getD 0<n+1:=Hcl.out _ (by rw[List.getElem?_eq_getElem hil];exact List.getElem_mem hil);have Hsucc:=hid (XK S n i);have Hi:=hid hi
     have Hne2:Hid (S.cols[i]?.getD 0≠n → ∀j<i+1,S.cols[j]?.getD 0≠n):=hid (fun h j hj=>by
      rcases Nat.lt_or_ge j i with hji | hji
      ·exact hne.out j hji
      ·rw[show j=i by omega];exact h)
     have Hmem:Hid (S.cols[i]?.getD 0=n→n∈(kY jm (n+1) M).cols):=hid (fun h=>by
      rw[←HSame.out.cols,←h,List.getElem?_eq_getElem hil];exact List.getElem_mem hil)
     subst hA;clear hcc hi hne;generalize S.cols[i]?.getD 0=ci at *;by_cases hcn:ci=n
     ·have hcnB:((ci:Int)==(n:Int))=true:=by simp;omega
      have Hm:=hid (Hmem.out hcn);clear hcn Hmem Hne2 Hsucc hOx
      go_wp2
      go_ret2;unfold ZG;rw[←HME.out];exact⟨HW0B.out.trans (hWx.out.mono HW0B.out.size),.inl ⟨Hm.out,rfl⟩⟩
     ·have hcnB:((ci:Int)==(n:Int))=false:=by simp;omega
      have hcin:ci<n:=by omega
      have hcin':(ci:Int)<(n:Int):=by omega
      have HN:=hid (Hne2.out hcn);clear hcn Hmem Hne2 hci
      obtain⟨r,hr⟩:∃r,S.rows[i]? =some r:=⟨S.rows[i]'(by have:=Hl2.out;omega),List.getElem?_eq_getElem _⟩
      have hMb:=HM2.out.below hWx.out;have cc1:=hMb.cellRow hr;obtain⟨⟨esr,hrq⟩,hrl,hrc1,hrc2⟩:=hMb.row _ (List.mem_of_getElem? hr);obtain⟨er,R1,rn1,rc1,R2,rn2,rc2,zz0,her,hrt,d0,d1,d2,zz1,zz2,zz3⟩:=hrq.at_ (j:=n) (by rw[hrl];omega);clear zz0 zz1 zz2 zz3;obtain⟨er0,era,erb⟩:=er
      have her':era = .slice R1 rn1 rc1∧erb = .slice R2 rn2 rc2:=by simpa using her
      obtain⟨rfl,rfl⟩:=her';clear her;unfold kX at hrt;dsimp only at d0 hrt;have hgb:=hMb.own.lt;have hrbl:=hrq.own.lt;have Hy:Hid (kB jm S.rows i n=r.2.2[n]?.getD 0):=hid (by unfold kB;rw[zf hr];rfl);obtain⟨esx,hOx1⟩:=hOx.out;obtain⟨t4,T1,tn1,tc1,T2,tn2,tc2,zz0,ht4,zz1,c40,c41,c42,f40,f41,f42⟩:=hOx1.at_ (j:=ci) (by rw[ZF];exact hcin);clear zz0 zz1;obtain⟨t40,t4a,t4b⟩:=t4
      have ht4':t4a = .slice T1 tn1 tc1∧t4b = .slice T2 tn2 tc2:=by simpa using ht4
      obtain⟨rfl,rfl⟩:=ht4';clear ht4;dsimp only at c40;have hgll:=hOx1.own.lt
      have HO7:Hid (∃es',jo (((wr.setCell ⟨gl,ci*3,none⟩ (.bool er0)).setCell ⟨gl,ci*3+1,none⟩ (.slice R1 rn1 rc1)).setCell ⟨gl,ci*3+2,none⟩ (.slice R2 rn2 rc2)) gl es' (yi S n (i+1))):=hid (by
       rw[Hsucc.out,Hy.out]
       exact⟨_,hOx1.put (j:=ci) (e:=(er0,.slice R1 rn1 rc1,.slice R2 rn2 rc2)) (by rw[ZF];exact hcin) hrt⟩)
      have HW7:=hid (((hWx.out.setCell (p:=⟨gl,ci*3,none⟩) hglW (.bool er0)).setCell (p:=⟨gl,ci*3+1,none⟩) hglW (.slice R1 rn1 rc1)).setCell (p:=⟨gl,ci*3+2,none⟩) hglW (.slice R2 rn2 rc2));have hXw:=hX.out.below hWx.out hX.out.lt;obtain⟨x0,x1,x2,x3,y0,y1,y2,y3⟩:=hXw.four;obtain⟨rb,rc,rl⟩:=r;unfold kK at cc1;dsimp only at cc1 hrl hrc1 hrc2 hrbl d0 d1 d2;clear hr hMb hrq hrt Hy hOx1 hOx hXw hrl
      go_wp2
      go_roundg gh2
      case rel=>exact⟨i+1,by go_num,rfl,by have:=Hi.out;omega,HW7,HO7,HN⟩
      case measure=>omega
def Sr (M:List (List jB)) (w:World) (e:Ending) (w':World):Prop:=
 Below w.heap.size w w'∧((ko M=0∧jM M=M.length∧e=xL (yF (jM M) (M.map ju)))∨(ko M=0∧jM M≠M.length∧e = .returned (.tuple #[.string ⟨#[]⟩,.int .i64 2]))∨(ko M≠0∧e = .returned (.tuple #[.string ⟨#[]⟩,.int .i64 (ko M)])))
def Z8 (n:Nat) (M:List (List Rat)):Prop:=zq n M∧Qz (kY jm n M)∧kA (yF n M)
theorem Db {w w1 w2:World} {g:Nat} {R:List jI} (hB1:Below w.heap.size w w1) (hg:w.heap.size≤g) (hnew:∀r∈R,w.heap.size≤r.1) (hbs:jO (g::R.map (·.1)) w1 w2):Below w.heap.size w w2:=
 hB1.trans (hbs.toBelow (fun k hk=>by
  rcases List.mem_cons.1 hk with rfl | hk
  ·exact hg
  ·obtain⟨r,hr,rfl⟩:=List.mem_map.1 hk;exact hnew r hr) hB1.size)
theorem MA (v:Value) (M:List (List jB)) (w:World) (hv:ku w v M) (hT:∀r∈M,∀l∈r,xB l) (hG:jH w) (hok:ko M=0→jM M=M.length→Z8 (jM M) (M.map ju)):
  Calls Tryz.prog 83 #[v] w (Sr M w):=by
 have RR:=hid (Zv v M w hv hT hG);obtain⟨A,c,rfl,_,_⟩:=hv.form;have HOK:=hid hok;have HG:=hid hG;clear hv hT hG hok;go_enter Tryz.func83,Tryz.ntmps83
 go_wp2_with fail
 refine RR.out.mono ?_;clear RR;rintro e w1 ⟨hB1,⟨hM,g,R,rfl,hg,hnew,hmx,hvals⟩ | ⟨hM,rfl⟩⟩
 ·change j6 w1 g R (jM M) at hmx
  obtain⟨hm1,hn1⟩:=K0 hM;have HM:=hid hM
  have hRl:R.length=M.length:=by rw[←yk R,hvals];simp
  have WD:Hid (Calls Tryz.prog 159 #[.slice (some ⟨g,0,none⟩) M.length M.length] w1 fun e w'=>e = .returned (.int .i64 (jM M:Nat))∧w1=w'):=hid (by
   have h:=Qr g M.length (jM M) R w1 hmx;rw[hRl] at h;by_cases hR:R=[]
   ·rw[if_pos hR] at h
    have:M=[]:=List.length_eq_zero_iff.1 (by rw[←hRl,hR];rfl)
    have h2:jM M=0:=by rw[this];rfl
    rw[h2];exact h
   ·rw[if_neg hR] at h;exact h)
  have HB1:=hid hB1;by_cases hsq:jM M=M.length
  ·have hsq':(((jM M:Nat):Int) != (M.length:Int))=false:=by simp;omega
   obtain⟨hok1,hok2,hok3⟩:=HOK.out hM hsq;have DT:=hid (Ss g M.length (jM M) R w1 hmx (by omega) (by omega) (by omega) (by rw[hvals];exact hok1) (by rw[hvals];exact hok2));rw[hRl] at DT;have Hvals:=hid hvals;have Hnew:=hid hnew;have HF:=hid hok3;have HSQ:=hid hsq;clear hmx hnew hvals hok1 hok2 hok3 hM hB1 hRl HOK hsq
   go_wp2_with (first | (go_at_call 159;refine WD.out.mono ?_;rintro e w' ⟨rfl,rfl⟩))
   refine DT.out.mono ?_;clear DT WD;rintro e w2 ⟨dv,rfl,hdv,hbs⟩;rw[Hvals.out] at hdv;have hB2:=Db HB1.out hg Hnew.out hbs;have WR:=hid (XZ dv (yF (jM M) (M.map ju)) w2 hdv HF.out.1 HF.out.2 (HG.out.below hB2));have HB2:=hid hB2;obtain⟨s,B1,m1,k1,B2,m2,k2,rfl⟩:=hdv.shape;generalize hde:yF (jM M) (M.map ju)=D at *;have HDE:=hid hde;clear hdv hbs hB2 hde HF
   go_wp2_with fail
   refine WR.out.mono ?_;clear WR;rintro e w3 ⟨rfl,hB3⟩;have HB3:=hid (HB2.out.trans (hB3.mono HB2.out.size));clear hB3
   have hend:∃(t:ByteArray) (k:Int),xL D = .returned (.tuple #[.string t,.int .i64 k]):=by
    unfold xL;split
    ·exact⟨_,_,rfl⟩
    ·exact⟨_,_,rfl⟩
   obtain⟨t,k,hend⟩:=hend;have HE:=hid hend;rw[hend];clear hend
   go_wp2
   go_ret2;exact⟨HB3.out,.inl ⟨HM.out,HSQ.out,by rw[HDE.out,HE.out];rfl⟩⟩
  ·have hsq':(((jM M:Nat):Int) != (M.length:Int))=true:=by simp;omega
   have HSQ:=hid hsq;clear hmx hnew hvals hM hB1 hRl HOK hsq
   go_wp2_with (first | (go_at_call 159;refine WD.out.mono ?_;rintro e w' ⟨rfl,rfl⟩))
   go_ret2;exact⟨HB1.out,.inr (.inl ⟨HM.out,HSQ.out,rfl⟩)⟩
 ·have HX:=hid hM
  have hne:(ko M != 0)=true:=by simpa using hM
  clear HOK hM;generalize hec:ko M=ec at *;have HEC:=hid hec;clear hec
  go_wp2
  go_ret2;exact⟨hB1,.inr (.inr ⟨by rw[HEC.out];exact HX.out,by rw[HEC.out];rfl⟩)⟩
def qX (L:List jB) (n:Nat):Int:=if L.length≠n then 2 else qt L
def CA (L:List jB) (n:Nat) (w:World) (e:Ending) (w':World):Prop:=
 Below w.heap.size w w'∧((qX L n=0∧L.length=n ∧ ∃g es,e = .returned (.tuple #[.slice (some ⟨g,0,none⟩) n n,.int .i64 0])∧w.heap.size≤g∧jo w' g es (ju L))∨(qX L n≠0∧e = .returned (.tuple #[jr,.int .i64 (qX L n)])))
theorem WV (v:Value) (L:List jB) (n:Nat) (w:World) (hv:jE w v (jR L)) (hn:n≤1000000) (hT:∀l∈L,xB l) (hG:jH w):
  Calls Tryz.prog 157 #[v,.int .i64 n] w (CA L n w):=by
 have hv':=hv;obtain⟨A,c,rfl,_,hc2⟩:=hv'.form;simp only[xr] at hc2 hv ⊢;clear hv';by_cases hl:L.length=n
 ·have hl':((L.length:Int) != (n:Int))=false:=by simp;omega
  have HS:Hid (qX L n=qt L):=hid (by unfold qX;rw[if_neg (by simpa using hl)]);have CV:=hid (UI _ L w hv (by omega) hT hG);have HL:=hid hl;clear hv hT hG hl;go_enter Tryz.func157,Tryz.ntmps157
  go_wp2_with fail
  refine CV.out.mono ?_;clear CV;rintro e w1 ⟨hB1,⟨hib,gn,esn,rfl,hg,hO1⟩ | ⟨hib,rfl⟩⟩
  ·have HO:=hid hO1
   have HI:=hid hib;clear hO1 hib
   go_wp2
   go_ret2;exact⟨hB1,.inl ⟨by rw[HS.out];exact HI.out,HL.out,gn,esn,by rw[←HL.out];rfl,hg,HO.out⟩⟩
  ·have HI:=hid hib
   clear hib;generalize hec:qt L=ec at *
   go_wp2
   go_ret2;exact⟨hB1,.inr ⟨by rw[HS.out];exact HI.out,by rw[HS.out];rfl⟩⟩
 ·have hl':((L.length:Int) != (n:Int))=true:=by simp;omega
  have HS:Hid (qX L n=2):=hid (by unfold qX;rw[if_pos hl]);clear hv hT hG hl;go_enter Tryz.func157,Tryz.ntmps157
  go_wp2
  go_ret2;exact⟨Below.refl _ _,.inr ⟨by rw[HS.out];decide,by rw[HS.out];rfl⟩⟩
def qq (M:List (List jB)) (b:List jB):Int:=if ko M=0 then qX b M.length else ko M
def S7 (M:List (List jB)) (b:List jB) (w:World) (e:Ending) (w':World):Prop:=
 Below w.heap.size w w'∧((qq M b=0∧ko M=0∧b.length=M.length ∧ ∃(g:Nat) (R:List jI) (gb:Nat) (eb:List El),e = .returned (.tuple #[.slice (some ⟨g,0,none⟩) M.length M.length,.slice (some ⟨gb,0,none⟩) M.length M.length,.int .i64 0]) ∧
   w.heap.size≤g∧(∀r∈R,w.heap.size≤r.1)∧j6 w' g R (jM M)∧jv R=M.map ju∧w.heap.size≤gb∧jo w' gb eb (ju b)) ∨
  (qq M b≠0 ∧ ∃v,e = .returned (.tuple #[v,jr,.int .i64 (qq M b)])))
theorem WS (v u:Value) (M:List (List jB)) (b:List jB) (w:World) (hv:ku w v M) (hu:jE w u (jR b)) (hT:∀r∈M,∀l∈r,xB l) (hTb:∀l∈b,xB l) (hG:jH w):
  Calls Tryz.prog 153 #[v,u] w (S7 M b w):=by
 have RR:=hid (Zv v M w hv hT hG);obtain⟨A,c,rfl,_,_⟩:=hv.form;have RS:=hid (fun (hl:M.length≤1000000) W (hw:Below w.heap.size w W)=>WV u b M.length W (hu.below hw) hl hTb (hG.below hw));obtain⟨A2,c2,rfl,_,_⟩:=hu.form;simp only[xr] at RS ⊢;clear hv hu hT hTb hG;go_enter Tryz.func153,Tryz.ntmps153
 go_wp2_with fail
 refine RR.out.mono ?_;clear RR;rintro e w1 ⟨hB1,⟨hM,g,R,rfl,hg,hnew,hmx,hvals⟩ | ⟨hM,rfl⟩⟩
 ·change j6 w1 g R (jM M) at hmx
  have RS2:=hid (RS.out (by have:=(K0 hM).1;omega) w1 hB1);have HE:Hid (qq M b=qX b M.length):=hid (by unfold qq;rw[if_pos hM]);have HM:=hid hM;have HB1:=hid hB1;have Hmx:=hid hmx;have Hnew:=hid hnew;have Hvals:=hid hvals;clear RS hM hB1 hmx hnew hvals
  go_wp2_with fail
  refine RS2.out.mono ?_;clear RS2;rintro e w2 ⟨hB2,⟨hs,hl,gb,eb,rfl,hgb,hO⟩ | ⟨hs,rfl⟩⟩
  ·have HS:=hid hs
   have HL:=hid hl;have HO:=hid hO;have HB2:=hid (HB1.out.trans (hB2.mono HB1.out.size));have Hmx2:=hid (Hmx.out.below hB2);have hgbw:w.heap.size≤gb:=Nat.le_trans HB1.out.size hgb;clear hs hl hO hB2
   go_wp2
   go_ret3;exact⟨HB2.out,.inl ⟨by rw[HE.out];exact HS.out,HM.out,HL.out,g,R,gb,eb,rfl,hg,Hnew.out,Hmx2.out,Hvals.out,hgbw,HO.out⟩⟩
  ·have HS:=hid hs
   have HB2:=hid (HB1.out.trans (hB2.mono HB1.out.size));clear hs hB2;generalize hec:qX b M.length=ec at *
   go_wp2
   go_ret3;exact⟨HB2.out,.inr ⟨by rw[HE.out];exact HS.out,_,by rw[HE.out];rfl⟩⟩
 ·have HX:=hid hM
  have HE:Hid (qq M b=ko M):=hid (by unfold qq;rw[if_neg hM])
  have hne:(ko M != 0)=true:=by simpa using hM
  clear hM RS;generalize hec:ko M=ec at *
  go_wp2
  go_ret3;exact⟨hB1,.inr ⟨by rw[HE.out];exact HX.out,_,by rw[HE.out];rfl⟩⟩
def Qn (n:Nat) (M:List (List Rat)) (b:List Rat):jP Rat:=kY jm (n+1) (xV M b)
def JI (n:Nat) (M:List (List Rat)) (b:List Rat):List Rat:=yi (Qn n M b) n (Qn n M b).cols.length
def Ug (n:Nat) (M:List (List Rat)) (b:List Rat):Prop:=zq (n+1) (xV M b) ∧ ∀q∈JI n M b,kA q
def Ca (L:List Rat) (w:World) (e:Ending) (w':World):Prop:=
 ((∀q∈L,¬kQ q) ∧ ∃g,e = .returned (.tuple #[.slice (some ⟨g,0,none⟩) L.length L.length,.int .i64 0])∧w.heap.size≤g∧ja w' g 22 (jR (L.map jg)))∨((∃q∈L,kQ q)∧e = .returned (.tuple #[jr,.int .i64 4]))
def CU (M:List (List jB)) (b:List jB) (w:World) (e:Ending) (w':World):Prop:=
 Below w.heap.size w w'∧((qq M b=0∧ko M=0∧b.length=M.length∧((jM M∈(Qn (jM M) (M.map ju) (ju b)).cols∧e = .returned (.tuple #[jr,.int .i64 21]))∨(jM M ∉ (Qn (jM M) (M.map ju) (ju b)).cols∧Ca (JI (jM M) (M.map ju) (ju b)) w e w'))) ∨
  (qq M b≠0∧e = .returned (.tuple #[jr,.int .i64 (qq M b)])))
theorem M0 (v u:Value) (M:List (List jB)) (b:List jB) (w:World) (hv:ku w v M) (hu:jE w u (jR b)) (hT:∀r∈M,∀l∈r,xB l) (hTb:∀l∈b,xB l) (hG:jH w) (hok:qq M b=0→Ug (jM M) (M.map ju) (ju b)):
  Calls Tryz.prog 76 #[v,u] w (CU M b w):=by
 have RE:=hid (WS v u M b w hv hu hT hTb hG);have HG:=hid hG;have HOK:=hid hok;obtain⟨A,c,rfl,_,_⟩:=hv.form;obtain⟨A2,c2,rfl,_,_⟩:=hu.form;simp only[xr] at RE ⊢;clear hv hu hT hTb hG hok;go_enter Tryz.func76,Tryz.ntmps76
 go_wp2_with fail
 refine RE.out.mono ?_;clear RE;rintro e w1 ⟨hB1,⟨hE,hM,hbl,g,R,gb,eb,rfl,hg,hnew,hmx,hvals,hgb,hO⟩ | ⟨hE,v1,rfl⟩⟩
 ·obtain⟨hm1,hn1⟩:=K0 hM
  have hRl:R.length=M.length:=by rw[←yk R,hvals];simp
  obtain⟨hok1,hok2⟩:=HOK.out hE
  have SV:=hid (CY g M.length (jM M) gb M.length R eb (ju b) w1 hmx (by omega) (by omega) (by omega) (fun h=>by
   have:M=[]:=List.length_eq_zero_iff.1 (by rw[←hRl,h];rfl)
   subst this;rfl) hO (by simp[ju];omega) (by simp[ju];omega) (by omega) (by rw[hvals];exact hok1))
  rw[hRl,hvals] at SV;have HE:=hid hE;have HM:=hid hM;have HBl:=hid hbl;have HF:=hid hok2;have HB1:=hid hB1;clear hmx hnew hvals hO hE hM hbl hok1 hok2 hB1 hRl HOK hg hgb
  go_wp2_with fail
  refine SV.out.mono ?_;clear SV;rintro e w2 ⟨hB2,⟨hin,rfl⟩ | ⟨hnin,gs,es,rfl,hgs,hS⟩⟩
  ·have HI:=hid hin
   have HB2:=hid (HB1.out.trans (hB2.mono HB1.out.size));clear hin hB2 HF
   go_wp2
   go_ret2;exact⟨HB2.out,.inl ⟨HE.out,HM.out,HBl.out,.inl ⟨HI.out,rfl⟩⟩⟩
  ·have HI:=hid hnin
   have HB2:=hid (HB1.out.trans (hB2.mono HB1.out.size));have hsl:(JI (jM M) (M.map ju) (ju b)).length=jM M:=ZF _ _ _;have WR:=hid (Mf gs (jM M) (jM M) es (JI (jM M) (M.map ju) (ju b)) w2 hS hsl.symm (by omega) (Nat.le_refl _) HF.out (HG.out.below HB2.out));clear hnin hB2 hS HF;generalize hde:JI (jM M) (M.map ju) (ju b)=D at *;have HDE:=hid hde;clear hde hsl
   go_wp2_with fail
   refine WR.out.mono ?_;clear WR;rintro e w3 ⟨hB3,⟨hok,gn,rfl,hgn,hO3⟩ | ⟨hno,rfl⟩⟩
   ·have HK:=hid hok
    have HO3:=hid hO3;have HB3:=hid (HB2.out.trans (hB3.mono HB2.out.size));have hgw:w.heap.size≤gn:=Nat.le_trans HB2.out.size hgn;clear hok hO3 hB3
    go_wp2
    go_ret2;exact⟨HB3.out,.inl ⟨HE.out,HM.out,HBl.out,.inr ⟨HI.out,by rw[HDE.out];exact .inl ⟨HK.out,gn,rfl,hgw,HO3.out⟩⟩⟩⟩
   ·have HK:=hid hno
    have HB3:=hid (HB2.out.trans (hB3.mono HB2.out.size));clear hno hB3
    go_wp2
    go_ret2;exact⟨HB3.out,.inl ⟨HE.out,HM.out,HBl.out,.inr ⟨HI.out,by rw[HDE.out];exact .inr ⟨HK.out,rfl⟩⟩⟩⟩
 ·have HX:=hid hE
  have hne:(qq M b != 0)=true:=by simpa using hE
  clear HOK hE;generalize hec:qq M b=ec at *;have HEC:=hid hec;clear hec
  go_wp2
  go_ret2;exact⟨hB1,.inr ⟨by rw[HEC.out];exact HX.out,by rw[HEC.out];rfl⟩⟩
