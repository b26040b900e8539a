/- Contracts: slices.AppendSeq and slices.Collect over the iterator of cyclesOf; Cycles. -/
import Derived.Test.YteagkgagdelklaaGreatDoorZT23
import Derived.Test.YteagkgagdelklaaGreatDoorZT22
set_option maxRecDepth 100000
set_option maxHeartbeats 4000000
namespace Go.Proofs.YteagkgagdelklaaGreatDoor
open Go.RowKit Go.Lib Go.Shelf
attribute [local go_sem] Oper.semAt_some
def TI (w:World) (base:Nat) (v:Value) (M:List (List Int)):Prop:=
 ∃vs:List Value,w.ownsRow base 41 1 v M.length vs∧vs.length=M.length ∧ ∀(i:Nat) (x:List Int),M[i]? =some x → ∃u bx,vs[i]? =some u∧base≤bx∧w.ownsRow bx 3 1 u x.length (je x)
theorem TI.keep {w w':World} {base:Nat} {v:Value} {M:List (List Int)} (h:TI w base v M) (hk:∀k,base≤k→k<w.heap.size→w'.heap[k]? =w.heap[k]?):TI w' base v M:=by
 obtain⟨vs,h1,h2,h3⟩:=h;refine⟨vs,xt h1 (fun k hl e=>hk k (h1.lt k e).1 hl),h2,fun i x hx=> ?_⟩;obtain⟨u,bx,hu,hb,hr⟩:=h3 i x hx;exact⟨u,bx,hu,hb,xt hr (fun k hl e=>hk k (Qap hb (hr.lt k e).1) hl)⟩
theorem TI.form {w:World} {base:Nat} {v:Value} {M:List (List Int)} (h:TI w base v M):∃A c,v = .slice A M.length c∧M.length≤c∧c≤maxLen:=by
 obtain⟨vs,h1,_⟩:=h;exact jX h1
theorem TI.snoc {w w':World} {base:Nat} {v v' u:Value} {M:List (List Int)} {x:List Int} {vs:List Value} (h1:w.ownsRow base 41 1 v M.length vs) (h2:vs.length=M.length)
  (h3:∀(i:Nat) (x:List Int),M[i]? =some x → ∃u bx,vs[i]? =some u∧base≤bx∧w.ownsRow bx 3 1 u x.length (je x)) {bx:Nat} (hb:base≤bx) (hu:w.ownsRow bx 3 1 u x.length (je x))
  (hown:w'.ownsRow base 41 1 v' (M.length+1) (vs++[u])) (hg:w.grownBy w' v.ownBlock):TI w' base v' (M++[x]):=by
 have hK:∀(bx:Nat) (u:Value) (x:List Int),w.ownsRow bx 3 1 u x.length (je x)→w'.ownsRow bx 3 1 u x.length (je x):=fun bx u x hr=>
  xt hr (fun k hl e=>hg.block k hl (fun e'=>QK hr h1 (by decide) k e e'.symm))
 refine⟨vs++[u],by rw[Qaf];exact hown,by simp[h2],fun i y hy=> ?_⟩;rcases Qae i M.length with hi | hi
 ·rw[QaB hi] at hy
  obtain⟨u',b',hu',hb',hr'⟩:=h3 i y hy;exact⟨u',b',by rw[QaB (by omega)];exact hu',hb',hK _ _ _ hr'⟩
 ·rw[QaH hi] at hy
  have h0:i-M.length=0:=by
   rcases QaA (i-M.length) with h0 | h0
   ·exact h0
   ·rw[Qah (by simp;omega)] at hy;cases hy
  rw[h0] at hy;simp at hy;subst hy;exact⟨u,bx,by rw[QaH (by omega),h2,h0];rfl,hb,hK _ _ _ hu⟩
theorem No (p:List Int):(qY p).length≤p.length:=by
 have h:∀k,(jZ p k).1.length≤k:=by
  intro k
  induction k with
  | zero=>simp[jZ]
  | succ k ih=>rw[jZ];split
               ·omega
               ·simp;omega
 exact h _
def Ey (M:List (List Int)) (w:World) (e:Ending) (w':World):Prop:=∃v base,e = .returned v∧w.heap.size≤base∧TI w' base v M∧Below w.heap.size w w'
theorem Rv (p:List Int) (A:Option Addr) (c Bp b0 off:Nat) (w:World) (hp:y4 p) (hl:p.length≤256) (hbox:ja w Bp 41 [.slice A p.length c]) (hR:yB p A b0 off w):
  Calls Tryz.prog 100 #[.slice none 0 0,.func (.func 101) #[] #[.pointer (some ⟨Bp,0,none⟩)]] w (Ey (qY p) w):=by
 obtain⟨i0,hi0,hz0,hz1,hz2⟩:=info_parts Wv;have HP:=hid hp;have HB:=hid hbox;have HR:=hid hR;clear hp hbox hR;refine(callsIn_wide (n:=4)).1 ?_;refine callsIn_of_wp_marks Tryz.func100 rfl trivial ?_ rfl;simp only[Tryz.ntmps100,List.size_toArray,QaR,QbA,Nat.reduceAdd,Nat.reduceSub,Array.replicate_succ,Array.replicate_zero,List.push_toArray,Qcq,Qbe,QbZ]
 gi_wp2
 have hBl:=HB.out.lt;have hbl:=HR.out.1;have hal:Below w.heap.size w (w.alloc (.cells #[.slice none 0 0] 42)):=(Below.refl _ w).alloc (Nat.le_refl _) _;have hO0:=ja.make w 42 [.slice none 0 0]
 have hsz:(w.alloc (.cells #[.slice none 0 0] 42)).heap.size=w.heap.size+1:=by simp
 obtain⟨w3,hw3⟩:∃w3,w3=w.alloc (.cells #[.slice none 0 0] 42):=⟨_,rfl⟩
 change ja (w.alloc (.cells #[.slice none 0 0] 42)) _ _ _ at hO0;rw[←hw3] at hal hO0 hsz ⊢;clear hw3
 refine Un (gf:=101) (lb:= #[.pointer (some ⟨Bp,0,none⟩)]) (xs:=qY p) (Pr:=JT) (Kp:=yi Bp b0) rfl (enters_of Tryz.func101 (by kernel_rfl) rfl)
  (fun W hW hs=>Y9 p A c Bp b0 off HP.out hl W (((hW.cell (p:=⟨Bp,0,none⟩) (by simp;omega)).trans (hal.cell (p:=⟨Bp,0,none⟩) hBl)).trans (HB.out.cell 0)) (by omega) ((HR.out.same hal.size (hal.block b0 hbl)).same hW.size (hW.block b0 (by omega)))) rfl
  (fun pre A'=>(∃v,ja A' w.heap.size 42 [v]∧TI A' (w3.heap.size+3) v pre)∧Below w.heap.size w A')
  (fun pre A' A2 h hb=>⟨by obtain⟨v,h1,h2⟩:=h.1;exact⟨v,h1.but hb (by omega),h2.keep fun k h3 h4=>hb.block k h4 (by omega)⟩,h.2.trans (hb.toBelow (by omega) h.2.size)⟩)
  (fun pre A' l o h hl _=>⟨by obtain⟨v,h1,h2⟩:=h.1;exact⟨v,h1.putObjQ (by omega) o,h2.keep fun k h3 h4=>World.putObj_heap_other (by omega)⟩,Below.putObjQ h.2 (by omega) o⟩)
  (fun A' B C h k=>h.trans k) (fun A' o hlt=>yi.putObjQ _ _ _ _ A' o (by omega) (by omega) (by omega))
  (fun x v A' o hlt h=>h.putObjQ (by omega) o)
  (fun o1 o2=>⟨⟨_,(hO0.alloc _).alloc _,[],World.ownsRow_nil _ _ _ _,rfl,fun i x h=>by simp at h⟩,(hal.alloc (by omega) _).alloc (by simp;omega) _⟩)
  (fun v=> { tmps:= #[.slice none 0 0,.func (.func 101) #[] #[.pointer (some ⟨Bp,0,none⟩)],.pointer (some ⟨w.heap.size,0,none⟩),undef,.slice none 0 0,v,.func (.func 101) #[] #[.pointer (some ⟨Bp,0,none⟩)],v,undef,undef,undef,undef,undef],defers:=[] })
  ?assign ?body ?done
 case assign=>
  intro l v W K hK
  gi_wp2
  exact hK
 case body=>
  rintro l pre x post u A' hx ⟨⟨v,hO,vs,hv1,hv2,hv3⟩,hB⟩ hlt ⟨base,hb1,hb2,hrow,hne⟩;have hcl:A'.cell? ⟨w.heap.size,0,none⟩=some v:=hO.cell 0;have hfr:=hO.free 0
  have hpl:pre.length<256:=by
   have h1:=No p;rw[hx] at h1;simp at h1;omega
  obtain⟨A2,c2,hu,_,_⟩:=jX hrow;obtain⟨A5,c5,hv,_,_⟩:=jX hv1;have HO:=hid hO;have HBw:=hid hB;have HV1:=hid hv1;have HV3:=hid hv3;have HRow:=hid hrow;have H0:=hid (kD hv1 ((Below.refl A'.heap.size A').alloc (Nat.le_refl _) (.cells #[u] 41)));subst hu hv;clear hO hB hv1 hv3 hrow
  gi_wp2_with (gi_at_builtin;(refine wpListIn_append_own _ rfl _ _ 42 rfl (w3.heap.size+3) 41 i0 (.slice none 0 0) 1 24 Tryz.underlying42 hi0 hz0 hz1 hz2 rfl (by decide) _ _ _ rfl H0.out ⟨A'.heap.size,0,none⟩ 1 1 [.slice A2 x.length c2] rfl rfl (cell_one_new _ _ _) (fun x hx=>by simp at hx;subst hx;rfl) (by unfold maxLen;omega) (by omega) (by simp;omega) ?_;intro v' w1 hown' hgrow _;obtain⟨A7,c7,rfl,_,_⟩:=jX hown';have hg:(A'.alloc (.cells #[.slice A2 x.length c2] 41)).grownBy w1 (Value.slice A5 pre.length c5).ownBlock:=hgrow;have hO1:=(HO.out.alloc (.cells #[.slice A2 x.length c2] 41)).grown hg (fun e=>by have:=(H0.out.lt _ e).1;omega);have hc1:w1.cell? ⟨w.heap.size,0,none⟩=some (.slice A5 pre.length c5):=hO1.cell 0;have hf1:=hO1.free 0;have HO1:=hid hO1;have HG:=hid hg;have HOW:=hid hown';clear hgrow hown' hO1 hg))
  have halb:Below A'.heap.size A' (A'.alloc (.cells #[.slice A2 x.length c2] 41)):=(Below.refl _ _).alloc (Nat.le_refl _) _
  have hkeep:∀k,k<A'.heap.size→k≠w.heap.size→k<w3.heap.size+3→(w1.setCell ⟨w.heap.size,0,none⟩ (.slice A7 (pre.length+1) c7)).heap[k]? =A'.heap[k]? :=fun k h1 h2 h3=>
   (Below.heap_setCell _ _ _ _ (by simpa using h2)).trans ((HG.out.block k (Qac h1 halb.size) (fun e=>by have:=(H0.out.lt k e.symm).1;omega)).trans (halb.block k h1))
  have hT:TI w1 (w3.heap.size+3) (.slice A7 (pre.length+1) c7) (pre++[x]):=TI.snoc H0.out hv2
   (fun i y hy=>by obtain⟨u,bx,h1,h2,h3⟩:=HV3.out i y hy;exact⟨u,bx,h1,h2,kD h3 halb⟩) (by omega) (kD HRow.out halb) HOW.out HG.out
  have hsz1:A'.heap.size≤w1.heap.size:=Qap halb.size HG.out.size;have hBw1:Below w.heap.size w w1:=Below.grown (HBw.out.alloc HBw.out.size _) HG.out (by have:=HBw.out.size;simp;omega) (fun k hk=>by have:=(H0.out.lt k hk).1;omega)
  exact⟨hkeep _ (by omega) (by omega) (by omega),hkeep _ (by omega) (by omega) (by omega),
   ⟨⟨_,HO1.out.put 0 _,hT.keep fun k h3 h4=>Below.heap_setCell _ _ _ _ (by simp;omega)⟩,hBw1.setCell (by simp) _⟩,
   by simpa using hsz1,hkeep _ (by omega) (by omega) (by omega),hkeep _ (by omega) (by omega) (by omega),hkeep _ (by omega) (by omega) (by omega)⟩
 case done=>
  rintro W ⟨⟨v,hO,hT⟩,hB⟩ hD;have hcl:W.cell? ⟨w.heap.size,0,none⟩=some v:=hO.cell 0;obtain⟨A5,c5,rfl,_,_⟩:=hT.form;have HB:=hid hB;have HD:=hid hD;have HT:=hid hT;clear hB hD hO hT
  gi_wp2
  refine⟨by simp,.inl ⟨_,_,rfl,run_takeDeferred HD.out,?_⟩⟩;exact⟨_,results_tmp rfl _ _ _,_,w3.heap.size+3,rfl,by omega,HT.out.keep fun k h3 h4=>World.putObj_heap_other (by omega),Below.putObjQ HB.out (by omega) _⟩
end Go.Proofs.YteagkgagdelklaaGreatDoor
namespace Go.Proofs.YteagkgagdelklaaGreatDoor
open Go.RowKit Go.Lib
theorem jD.putN {w:World} {dv:Value} {ws:List Nat} {g i:Nat} {t:TypeId} {cs:List Value} (h:jD w dv (jm ws)) (hO:ja w g t cs) (hc:∀c∈cs,ko c) (u:Value):jD (w.setCell ⟨g,i,none⟩ u) dv (jm ws):=by
 obtain⟨A,c,hv,h4,h5,h7⟩:=h;refine⟨A,c,hv,h4,h5,fun hn=> ?_⟩;obtain⟨b,off,hA,hb,hcell⟩:=h7 hn;refine⟨b,off,hA,by simpa using hb,fun j hj0=> ?_⟩;have hj:=hcell j hj0
 have hne:b≠g:=by
  rintro rfl;rw[hO.cell,Qaa hj0] at hj;have hm:=hc _ (Qab hj);obtain⟨y,_,hy⟩:=List.mem_map.1 (Qay hj0);exact hm _ _ hy.symm
 rw[World.cell?_setCell_other _ _ _ _ (by intro e;injection e with e1;exact hne e1.symm)];exact hj
theorem Ri.put2 {w:World} {v:Value} {x:Int} {g:Nat} {t:TypeId} {a b a' b':Value} (h:Ri w v x) (hO:ja w g t [a,b]) (ha:ko a) (hb:ko b) (ha':ko a'):
  Ri ((w.setCell ⟨g,0,none⟩ a').setCell ⟨g,1,none⟩ b') v x:=by
 obtain⟨dv,ws,h1,h2,h3,h4,h5⟩:=h;have k1:=h5.putN (i:=0) hO (by simp only[QbC,QbJ,or_false];rintro c (rfl | rfl) <;> assumption) a';have hO1:=hO.put 0 a';exact⟨dv,ws,h1,h2,h3,h4,k1.putN (i:=1) hO1 (by simp only[List.set,QbC,QbJ,or_false];rintro c (rfl | rfl) <;> assumption) b'⟩
theorem ja.two {w:World} {g:Nat} {t:TypeId} {a b:Value} (h:ja w g t [a,b]):
  w.cell? ⟨g,0,none⟩=some a∧w.cell? ⟨g,1,none⟩=some b∧w.frozen? ⟨g,0,none⟩=false∧w.frozen? ⟨g,1,none⟩=false:=
 ⟨h.cell 0,h.cell 1,h.free 0,h.free 1⟩
theorem ja.set2 {w:World} {g:Nat} {t:TypeId} {a b a' b':Value} (h:ja w g t [a,b]):ja ((w.setCell ⟨g,0,none⟩ a').setCell ⟨g,1,none⟩ b') g t [a',b']:=(h.put 0 a').put 1 b'
theorem Ri.open_ {w:World} {v:Value} {x:Int} (h:Ri w v x):∃A n c,v = .agg #[.bool (decide (x<0)),.slice A n c]∧n≤c∧n≤140737488355328:=by
 obtain⟨dv,ws,h1,h2,h3,h4,h5⟩:=h;obtain⟨A,c,rfl,hc1,hc2⟩:=h5.form;exact⟨A,_,c,h1,hc1,hc2⟩
def Kw (N m:Nat) (ws:List Nat):Prop:=jb ws+B9^ws.length*m=N∧jI ws
theorem Kw.step {N m:Nat} {ws:List Nat} (h:Kw N m ws):Kw N (m/1000000000) (ws++[m%1000000000]):=by
 obtain⟨h1,h2⟩:=h;refine⟨?_,Kz.2 ⟨h2,JX.2 (QaI _ (by decide))⟩⟩;rw[Jw,Qaf,QaZ,QaD,Qal,Qb9,←Qau,Nat.mod_add_div,h1]
theorem Kw.len {N m:Nat} {ws:List Nat} (h:Kw N m ws) (hm:0<m) (hN:N<1000000000000000000000000000):ws.length<3:=by
 rcases Qae ws.length 3 with h1 | h1
 ·exact h1
 ·have h2:B9^3≤B9^ws.length:=Qai (by decide) h1
  have h3:B9^ws.length*1≤B9^ws.length*m:=Qan _ hm;have h4:=h.1
  have h5:B9^3=1000000000000000000000000000:=by decide
  omega
def E6 (N base:Nat) (g:Nat) (v:Value) (w wr:World):Prop:=∃ws:List Nat,Kw N g ws∧ws.length≤3∧wr.ownsRow (base+1) 3 1 v ws.length (jm ws)∧ja wr base 178 [.bool false,.slice none 0 0]∧Below w.heap.size w wr
theorem PS (N:Nat) (w:World) (hN:N≤9223372036854775807):
  Calls Tryz.prog 155 #[.int .i64 (N:Int)] w (kZ (sg false N) w):=by
 obtain⟨i0,hi,hz0,hz1,hz2⟩:=info_parts zd;have HN:=hid hN;have HNL:Hid (N<1000000000000000000000000000):=hid (by omega)
 have hNI:(N:Int)≤9223372036854775807:=by omega
 clear hN;go_enter Tryz.func155,Tryz.ntmps155
 go_wp2_with fail
 go_loopg [0,3,5] N (fun g u v _ wr=>u = .int .i64 (g:Int)∧(g:Int)≤(N:Int)∧Hid (E6 N w.heap.size g v w wr))
 case atStart=>exact⟨rfl,Int.le_refl _,hid ⟨[],⟨by simp[jb],KA⟩,by decide,World.ownsRow_nil _ _ _ _,ja.make _ _ _,(Below.refl _ _).alloc (Nat.le_refl _) _⟩⟩
 case round=>
  obtain⟨rfl,hgN,hR⟩:=hrel;obtain⟨ws,hI,hl,hO,hOw,hB⟩:=hR.out;clear hR;obtain⟨A7,k7,hvf,hv1,hv2⟩:=jX hO;have HI:=hid hI;have HO:=hid hO;have HOw:=hid hOw;have HB:=hid hB;clear hI hO hOw hB;subst hvf;by_cases h0:gk=0
  ·subst h0
   have HV:Hid (jb ws=N):=hid (by have:=HI.out.1;omega);have SG:=hid (xR false _ ws wr HI.out.2 (x9 HO.out (by omega)));rw[HV.out] at SG
   go_wp2_with fail
   refine SG.out.mono ?_;clear SG;rintro e w2 ⟨rv,rfl,hri,hB2⟩;obtain⟨RA,rn,rc,rfl,hr1,hr2⟩:=hri.open_;generalize hbz:decide (sg false N<0)=bz at *;have HO2:=hid (HOw.out.below hB2 HOw.out.lt);obtain⟨c0,c1,f0,f1⟩:=HO2.out.two;have HRF:=hid (hri.put2 (a':= .bool bz) (b':= .slice RA rn rc) HO2.out (ju _) (jr _ _ _) (ju _));have HBF:Hid (Below w.heap.size w ((w2.setCell ⟨w.heap.size,0,none⟩ (.bool bz)).setCell ⟨w.heap.size,1,none⟩ (.slice RA rn rc))):=hid (((HB.out.trans (hB2.mono HB.out.size)).setCell (p:=⟨w.heap.size,0,none⟩) (Nat.le_refl _) _).setCell (p:=⟨w.heap.size,1,none⟩) (Nat.le_refl _) _);clear hri hB2 hbz
   go_wp2
   obtain⟨z0,z1,_,_⟩:=(HO2.out.set2 (a':= .bool bz) (b':= .slice RA rn rc)).two;exact bodyPost_ret (v:= .agg #[.bool bz,.slice RA rn rc]) (by simp[results,Tryz.results155,go_sem,z0,z1]) rfl ⟨_,rfl,HRF.out,HBF.out⟩
  ·have hg0:(0:Int)<(gk:Int):=by omega
   have HL:=hid (HI.out.len (by omega) HNL.out);have HS:=hid HI.out.step;have hl3:ws.length<3:=HL.out;have hq:gk/1000000000<gk:=Nat.div_lt_self (by omega) (by decide);have hr9:gk%1000000000<1000000000:=QaI _ (by decide);have hs:=HB.out.size;clear HI
   go_wp2_with (at_builtin;(refine wpList_append_own _ rfl _ _ 41 rfl (w.heap.size+1) 3 i0 (.int .i64 0) 1 8 Tryz.underlying41 hi hz0 hz1 hz2 rfl (by decide) _ _ _ rfl (HO.out.alloc _) ⟨wr.heap.size,0,none⟩ 1 1 [.int .i64 ((gk%1000000000:Nat):Int)] rfl rfl (cell_one_new _ _ _) (fun x hx=>by simp at hx;subst hx;rfl) (by unfold maxLen;omega) (by omega) (by simp;omega) ?_;intro v' w1 hown' hgrow _))
   have HO':Hid (w1.ownsRow (w.heap.size+1) 3 1 v' (ws++[(gk%1000000000)]).length (jm (ws++[(gk%1000000000)]))):=hid (by
    rw[x7,Qaf,QaZ];exact hown')
   have HOw':Hid (ja w1 w.heap.size 178 [.bool false,.slice none 0 0]):=hid ((HOw.out.alloc _).grown hgrow (fun e=>by have:=(HO.out.lt _ e).1;omega));have HB':=hid (Below.grown (HB.out.alloc hs (.cells #[.int .i64 ((gk%1000000000:Nat):Int)] 3)) hgrow (by simp;omega) (fun j hj=>by have:=(HO.out.lt _ hj).1;omega));have HL':Hid ((ws++[(gk%1000000000)]).length≤3):=hid (by rw[Qaf,QaZ];omega);clear hown' hgrow
   go_wp2
   go_roundg (gk/1000000000)
   case rel=>exact⟨by go_num,by omega,hid ⟨_,HS.out,HL'.out,HO'.out,HOw'.out,HB'.out⟩⟩
   case measure=>exact hq
theorem PQ (N:Nat) (w:World) (hN0:0<N) (hN:N≤9223372036854775808):
  Calls Tryz.prog 155 #[.int .i64 (-(N:Int))] w (kZ (sg true N) w):=by
 obtain⟨i0,hi,hz0,hz1,hz2⟩:=info_parts zd;have HN:=hid hN;have HNL:Hid (N<1000000000000000000000000000):=hid (by omega)
 have hNI:(N:Int)≤9223372036854775808:=by omega
 have hN1:(0:Int)<N:=by omega
 clear hN0;clear hN;go_enter Tryz.func155,Tryz.ntmps155
 go_wp2_with fail
 go_loopg [0,3,5] N (fun g u v _ wr=>u = .int .i64 (-(g:Int))∧(g:Int)≤(N:Int)∧Hid (E6 N w.heap.size g v w wr))
 case atStart=>exact⟨rfl,Int.le_refl _,hid ⟨[],⟨by simp[jb],KA⟩,by decide,World.ownsRow_nil _ _ _ _,ja.make _ _ _,(Below.refl _ _).alloc (Nat.le_refl _) _⟩⟩
 case round=>
  obtain⟨rfl,hgN,hR⟩:=hrel;obtain⟨ws,hI,hl,hO,hOw,hB⟩:=hR.out;clear hR;obtain⟨A7,k7,hvf,hv1,hv2⟩:=jX hO;have HI:=hid hI;have HO:=hid hO;have HOw:=hid hOw;have HB:=hid hB;clear hI hO hOw hB;subst hvf;by_cases h0:gk=0
  ·subst h0
   have HV:Hid (jb ws=N):=hid (by have:=HI.out.1;omega);have SG:=hid (xR true _ ws wr HI.out.2 (x9 HO.out (by omega)));rw[HV.out] at SG
   go_wp2_with fail
   rw[show decide (0<N)=true from QaK (by omega)];refine SG.out.mono ?_;clear SG;rintro e w2 ⟨rv,rfl,hri,hB2⟩;obtain⟨RA,rn,rc,rfl,hr1,hr2⟩:=hri.open_;generalize hbz:decide (sg true N<0)=bz at *;have HO2:=hid (HOw.out.below hB2 HOw.out.lt);obtain⟨c0,c1,f0,f1⟩:=HO2.out.two;have HRF:=hid (hri.put2 (a':= .bool bz) (b':= .slice RA rn rc) HO2.out (ju _) (jr _ _ _) (ju _));have HBF:Hid (Below w.heap.size w ((w2.setCell ⟨w.heap.size,0,none⟩ (.bool bz)).setCell ⟨w.heap.size,1,none⟩ (.slice RA rn rc))):=hid (((HB.out.trans (hB2.mono HB.out.size)).setCell (p:=⟨w.heap.size,0,none⟩) (Nat.le_refl _) _).setCell (p:=⟨w.heap.size,1,none⟩) (Nat.le_refl _) _);clear hri hB2 hbz
   go_wp2
   obtain⟨z0,z1,_,_⟩:=(HO2.out.set2 (a':= .bool bz) (b':= .slice RA rn rc)).two;exact bodyPost_ret (v:= .agg #[.bool bz,.slice RA rn rc]) (by simp[results,Tryz.results155,go_sem,z0,z1]) rfl ⟨_,rfl,HRF.out,HBF.out⟩
  ·have hg0:(0:Int)<(gk:Int):=by omega
   have HL:=hid (HI.out.len (by omega) HNL.out);have HS:=hid HI.out.step;have hl3:ws.length<3:=HL.out;have hq:gk/1000000000<gk:=Nat.div_lt_self (by omega) (by decide);have hr9:gk%1000000000<1000000000:=QaI _ (by decide);have hs:=HB.out.size
   have e1:(-(gk:Int)).tmod 1000000000 = -((gk%1000000000:Nat):Int):=by rw[Int.neg_tmod];congr 1
   have e2:(-(gk:Int)).tdiv 1000000000 = -((gk/1000000000:Nat):Int):=by rw[Int.neg_tdiv];congr 1
   generalize gk%1000000000=r at *;generalize gk/1000000000=q at *;rcases QaA r with hr0 | hr0
   ·subst hr0
    have e3:(-(gk:Int)).tmod 1000000000=0:=by rw[e1];rfl
    clear e1;clear HI
    go_wp2_with (at_builtin;(refine wpList_append_own _ rfl _ _ 41 rfl (w.heap.size+1) 3 i0 (.int .i64 0) 1 8 Tryz.underlying41 hi hz0 hz1 hz2 rfl (by decide) _ _ _ rfl (HO.out.alloc _) ⟨wr.heap.size,0,none⟩ 1 1 [.int .i64 0] rfl rfl (cell_one_new _ _ _) (fun x hx=>by simp at hx;subst hx;rfl) (by unfold maxLen;omega) (by omega) (by simp;omega) ?_;intro v' w1 hown' hgrow _))
    have HO':Hid (w1.ownsRow (w.heap.size+1) 3 1 v' (ws++[0]).length (jm (ws++[0]))):=hid (by
     rw[x7,Qaf,QaZ];exact hown')
    have HOw':Hid (ja w1 w.heap.size 178 [.bool false,.slice none 0 0]):=hid ((HOw.out.alloc _).grown hgrow (fun e=>by have:=(HO.out.lt _ e).1;omega));have HB':=hid (Below.grown (HB.out.alloc hs (.cells #[.int .i64 0] 3)) hgrow (by simp;omega) (fun j hj=>by have:=(HO.out.lt _ hj).1;omega));have HL':Hid ((ws++[0]).length≤3):=hid (by rw[Qaf,QaZ];omega);clear hown' hgrow
    go_wp2
    go_roundg q
    case rel=>exact⟨by go_num,by omega,hid ⟨_,HS.out,HL'.out,HO'.out,HOw'.out,HB'.out⟩⟩
    case measure=>exact hq
   ·have hr1:(0:Int)<(r:Int):=by omega
    clear HI
    go_wp2_with (at_builtin;(refine wpList_append_own _ rfl _ _ 41 rfl (w.heap.size+1) 3 i0 (.int .i64 0) 1 8 Tryz.underlying41 hi hz0 hz1 hz2 rfl (by decide) _ _ _ rfl (HO.out.alloc _) ⟨wr.heap.size,0,none⟩ 1 1 [.int .i64 (r:Int)] rfl rfl (cell_one_new _ _ _) (fun x hx=>by simp at hx;subst hx;rfl) (by unfold maxLen;omega) (by omega) (by simp;omega) ?_;intro v' w1 hown' hgrow _))
    have HO':Hid (w1.ownsRow (w.heap.size+1) 3 1 v' (ws++[r]).length (jm (ws++[r]))):=hid (by
     rw[x7,Qaf,QaZ];exact hown')
    have HOw':Hid (ja w1 w.heap.size 178 [.bool false,.slice none 0 0]):=hid ((HOw.out.alloc _).grown hgrow (fun e=>by have:=(HO.out.lt _ e).1;omega));have HB':=hid (Below.grown (HB.out.alloc hs (.cells #[.int .i64 (r:Int)] 3)) hgrow (by simp;omega) (fun j hj=>by have:=(HO.out.lt _ hj).1;omega));have HL':Hid ((ws++[r]).length≤3):=hid (by rw[Qaf,QaZ];omega);clear hown' hgrow
    go_wp2
    go_roundg q
    case rel=>exact⟨by go_num,by omega,hid ⟨_,HS.out,HL'.out,HO'.out,HOw'.out,HB'.out⟩⟩
    case measure=>exact hq
theorem PO (x:Int) (w:World) (h: -9223372036854775808≤x∧x≤9223372036854775807):
  Calls Tryz.prog 155 #[.int .i64 x] w (kZ x w):=by
 by_cases hx:x<0
 ·have e:x = -(x.natAbs:Int):=by omega
  have h2:=PQ x.natAbs w (by omega) (by omega)
  have e2:sg true x.natAbs=x:=by unfold sg;rw[if_pos rfl];omega
  rw[e2,←e] at h2;exact h2
 ·have e:x=(x.natAbs:Int):=by omega
  have h2:=PS x.natAbs w (by omega)
  have e2:sg false x.natAbs=x:=by unfold sg;rw[if_neg (by decide)];omega
  rw[e2,←e] at h2;exact h2
theorem GO {w:World} {base:Nat} {e:TypeId} {size:Nat} {v:Value} {n:Nat} {xs:List Value} (h:w.ownsRow base e size v n xs) (k:Nat):(w.drewN k).ownsRow base e size v n xs:=h
theorem Xs (ws:List Nat) (k:Nat):jb (ws.take (k+1))=jb (ws.take k)+B9^k*ws[k]?.getD 0:=by
 rcases Qae k ws.length with h | h
 ·rw[zl ws k h,Jw,Qak,QaJ (by omega)]
 ·rw[Qad (by omega),Qad h,Qah h];simp
theorem Ze (v:Value) (ws:List Nat) (i:Nat) (w:World) (hv:jD w v (jm ws)):
  Calls Tryz.prog 223 #[v,.int .i64 (i:Int)] w fun e w'=>e = .returned (.int .i64 ((ws[i]?.getD 0:Nat):Int))∧w=w':=by
 obtain⟨A,c,rfl,hc1,hc2⟩:=hv.form;simp only[kh] at *;rcases Qae i ws.length with h | h
 ·have hI:(i:Int)<(ws.length:Int):=by omega
  obtain⟨b,off,rfl,hb,hcell⟩:=hv.at_ (k:=i) (by rw[kh];omega);have hck:=(hcell i (by rw[kh];omega)).trans (qq ws i h);generalize ws[i]?.getD 0=x at *;clear hcell hv;go_enter Tryz.func223,Tryz.ntmps223
  go_wp2
  go_ret;exact⟨rfl,rfl⟩
 ·have hI:¬(i:Int)<(ws.length:Int):=by omega
  have HX:Hid (ws[i]?.getD 0=0):=hid (by rw[Qah h];rfl);clear hv h;go_enter Tryz.func223,Tryz.ntmps223
  go_wp2
  go_ret;exact⟨by rw[HX.out];rfl,rfl⟩
def zo (p q:List Nat) (k c:Nat) (L:List Nat):Prop:=L.length=k∧jI L∧c≤1∧jb L+B9^k*c=jb (p.take k)+jb (q.take k)
theorem zo.start (p q:List Nat):zo p q 0 0 []:=⟨rfl,KA,by omega,by simp[jb]⟩
theorem zo.step {p q:List Nat} {k c:Nat} {L:List Nat} (h:zo p q k c L) (op:jI p) (oq:jI q) {s:Nat} (hs:p[k]?.getD 0+q[k]?.getD 0+c=s):zo p q (k+1) (s/B9) (L++[s%B9]):=by
 obtain⟨h1,h2,h3,h4⟩:=h;have hx:=kR op k;have hy:=kR oq k;have e:=QaP s B9;have hr:s%B9<B9:=QaI _ (by decide);unfold zo;rw[Xs,Xs,Jw,h1,QaD,Qal];generalize s/B9=t at *;generalize s%B9=r at *;generalize p[k]?.getD 0=x at *;generalize q[k]?.getD 0=y at *
 have e2:B9^k*(B9*t+r)=B9^k*(x+y+c):=by rw[e,hs]
 rw[Qau,Qau,Qau] at e2;refine⟨by simp[h1],Kz.2 ⟨h2,JX.2 hr⟩,by unfold B9 at *;omega,?_⟩;generalize B9^k=P at *;generalize P*(B9*t)=Z1 at *;generalize P*r=Z2 at *;generalize P*x=Z3 at *;generalize P*y=Z4 at *;generalize P*c=Z5 at *;omega
theorem zo.last {p q:List Nat} {k c:Nat} {L:List Nat} (h:zo p q k c L) (hp:p.length≤k) (hq:q.length≤k) (hc:c=0):jb L=jb p+jb q:=by
 have h4:=h.2.2.2;rw[Qad hp,Qad hq,hc] at h4;simpa using h4
theorem OZ {x y c s:Nat} (hx:x=0) (hy:y=0) (hc:c≤1) (hs:x+y+c=s):s/B9=0:=Qbt (by unfold B9;omega)
def JB (x:Nat) (w:World) (e:Ending) (w':World):Prop:=∃v L,e = .returned v∧jb L=x∧jI L∧jD w' v (jm L)∧Below w.heap.size w w'
theorem SE (v u:Value) (p q:List Nat) (w:World) (hv:jD w v (jm p)) (hu:jD w u (jm q)) (op:jI p) (oq:jI q) (hp:p.length≤1000000) (hq:q.length≤1000000):
  Calls Tryz.prog 208 #[v,u] w (JB (jb p+jb q) w):=by
 obtain⟨A,c,rfl,hc1,hc2⟩:=hv.form;obtain⟨B,d,rfl,gc1,gc2⟩:=hu.form;simp only[kh] at *;obtain⟨i0,hi,hz0,hz1,hz2⟩:=info_parts zd
 obtain⟨m,hpm,hqm,hm6⟩:∃m,p.length≤m∧q.length≤m∧m≤1000000:=⟨max p.length q.length,by omega,by omega,by omega⟩
 have HV:=hid hv;have HU:=hid hu;have HOP:=hid op;have HOQ:=hid oq;clear hv hu op oq;go_enter Tryz.func208,Tryz.ntmps208
 go_wp2_with fail
 go_loopg [5,6,7,8] (m+1) (fun g out cr i _ wr=>∃(k c':Nat) (L:List Nat),i = .int .i64 (k:Int)∧cr = .int .i64 (c':Int)∧k+g=m+1∧Hid (zo p q k c' L)∧Hid (g=0→c'=0)∧Hid (wr.ownsRow w.heap.size 3 1 out k (jm L))∧Hid (Below w.heap.size w wr))
 case atStart=>exact⟨0,0,[],rfl,rfl,by omega,hid (zo.start p q),hid (fun h=>rfl),hid (World.ownsRow_nil _ _ _ _),hid (Below.refl _ _)⟩
 case round=>
  obtain⟨k,c',L,rfl,rfl,hk,hI,hZ,hO,hB⟩:=hrel;have hc1':c'≤1:=hI.out.2.2.1;have hs:=hB.out.size;by_cases hgo:k<p.length∨k<q.length∨0<c'
  ·obtain⟨g,rfl⟩:∃g,gk=g+1:=⟨gk-1,by
    rcases QaA gk with h0 | h0
    ·have:=hZ.out h0;omega
    ·omega⟩
   have hkm:k≤1000000:=by omega
   have D1:Hid (Calls Tryz.prog 223 #[.slice A p.length c,.int .i64 (k:Int)] wr fun e w'=>e = .returned (.int .i64 ((p[k]?.getD 0:Nat):Int))∧wr=w'):=hid (Ze _ p k wr (HV.out.below hB.out));have D2:Hid (Calls Tryz.prog 223 #[.slice B q.length d,.int .i64 (k:Int)] wr fun e w'=>e = .returned (.int .i64 ((q[k]?.getD 0:Nat):Int))∧wr=w'):=hid (Ze _ q k wr (HU.out.below hB.out));have hx9:=kR HOP.out k;have hy9:=kR HOQ.out k;have HST:=hid (fun s hs=>hI.out.step (s:=s) HOP.out HOQ.out hs);have HZ2:Hid (∀s,p[k]?.getD 0+q[k]?.getD 0+c'=s→g=0→s/B9=0):=hid (fun s hs h0=>OZ (by rw[Qah (by omega)];rfl) (by rw[Qah (by omega)];rfl) hc1' hs);generalize p[k]?.getD 0=x at *;generalize q[k]?.getD 0=y at *
   obtain⟨s,hss⟩:∃s,x+y+c'=s:=⟨_,rfl⟩
   have HS:=hid (HST.out s hss);have HZ3:=hid (HZ2.out s hss);have Q1:Hid (((x:Int)+(y:Int)+(c':Int))/1000000000=((s/B9:Nat):Int)):=hid (by rw[←hss,Qbn,QaG,QaG];rfl);have Q2:Hid (((x:Int)+(y:Int)+(c':Int))%1000000000=((s%B9:Nat):Int)):=hid (by rw[←hss,Qce,QaG,QaG];rfl)
   have hxI:(x:Int)<1000000000:=by unfold B9 at hx9;omega
   have hyI:(y:Int)<1000000000:=by unfold B9 at hy9;omega
   have hcI:(c':Int)≤1:=by omega
   have Hk:=hid hk;clear hss HST HZ2 hx9 hy9 hk hI hZ hc1';by_cases h1:k<p.length
   ·have h1I:(k:Int)<(p.length:Int):=by omega
    clear h1 hgo
    go_wp2_with fail
    refine D1.out.mono ?_;rintro e w1 ⟨rfl,rfl⟩
    go_wp2_with fail
    refine D2.out.mono ?_;rintro e w1 ⟨rfl,rfl⟩
    go_wp2_with (at_builtin;(refine wpList_append_own _ rfl _ _ 41 rfl w.heap.size 3 i0 (.int .i64 0) 1 8 Tryz.underlying41 hi hz0 hz1 hz2 rfl (by decide) _ _ _ rfl (hO.out.alloc _) ⟨wr.heap.size,0,none⟩ 1 1 [.int .i64 (((x:Int)+(y:Int)+(c':Int))%1000000000)] rfl rfl (cell_one_new _ _ _) (fun x hx=>by simp at hx;subst hx;rfl) (by unfold maxLen;omega) (by omega) (by simp;omega) ?_;intro v' w1 hown' hgrow _))
    rw[Q2.out,←x7] at hown';have HO':=hid hown';have HB':=hid (Below.grown (hB.out.alloc hs (.cells #[.int .i64 (((x:Int)+(y:Int)+(c':Int))%1000000000)] 3)) hgrow (by simp;omega) (fun j hj=>by have:=(hO.out.lt _ hj).1;omega));clear hown' hgrow
    go_wp2
    go_roundg g
    case rel=>exact⟨k+1,s/B9,L++[s%B9],by go_num,by rw[Q1.out],by have:=Hk.out;omega,HS,HZ3,HO',HB'⟩
    case measure=>omega
   ·have h1I:¬(k:Int)<(p.length:Int):=by omega
    by_cases h2:k<q.length
    ·have h2I:(k:Int)<(q.length:Int):=by omega
     clear h1 h2 hgo
     go_wp2_with fail
     refine D1.out.mono ?_;rintro e w1 ⟨rfl,rfl⟩
     go_wp2_with fail
     refine D2.out.mono ?_;rintro e w1 ⟨rfl,rfl⟩
     go_wp2_with (at_builtin;(refine wpList_append_own _ rfl _ _ 41 rfl w.heap.size 3 i0 (.int .i64 0) 1 8 Tryz.underlying41 hi hz0 hz1 hz2 rfl (by decide) _ _ _ rfl (hO.out.alloc _) ⟨wr.heap.size,0,none⟩ 1 1 [.int .i64 (((x:Int)+(y:Int)+(c':Int))%1000000000)] rfl rfl (cell_one_new _ _ _) (fun x hx=>by simp at hx;subst hx;rfl) (by unfold maxLen;omega) (by omega) (by simp;omega) ?_;intro v' w1 hown' hgrow _))
     rw[Q2.out,←x7] at hown';have HO':=hid hown';have HB':=hid (Below.grown (hB.out.alloc hs (.cells #[.int .i64 (((x:Int)+(y:Int)+(c':Int))%1000000000)] 3)) hgrow (by simp;omega) (fun j hj=>by have:=(hO.out.lt _ hj).1;omega));clear hown' hgrow
     go_wp2
     go_roundg g
     case rel=>exact⟨k+1,s/B9,L++[s%B9],by go_num,by rw[Q1.out],by have:=Hk.out;omega,HS,HZ3,HO',HB'⟩
     case measure=>omega
    ·have h2I:¬(k:Int)<(q.length:Int):=by omega
     obtain rfl:c'=1:=by omega
     clear h1 h2 hgo hcI;replace Q1:Hid (((x:Int)+(y:Int)+1)/1000000000=((s/B9:Nat):Int)):=hid Q1.out;replace Q2:Hid (((x:Int)+(y:Int)+1)%1000000000=((s%B9:Nat):Int)):=hid Q2.out
     go_wp2_with fail
     refine D1.out.mono ?_;rintro e w1 ⟨rfl,rfl⟩
     go_wp2_with fail
     refine D2.out.mono ?_;rintro e w1 ⟨rfl,rfl⟩
     go_wp2_with (at_builtin;(refine wpList_append_own _ rfl _ _ 41 rfl w.heap.size 3 i0 (.int .i64 0) 1 8 Tryz.underlying41 hi hz0 hz1 hz2 rfl (by decide) _ _ _ rfl (hO.out.alloc _) ⟨wr.heap.size,0,none⟩ 1 1 [.int .i64 (((x:Int)+(y:Int)+1)%1000000000)] rfl rfl (cell_one_new _ _ _) (fun x hx=>by simp at hx;subst hx;rfl) (by unfold maxLen;omega) (by omega) (by simp;omega) ?_;intro v' w1 hown' hgrow _))
     rw[Q2.out,←x7] at hown';have HO':=hid hown';have HB':=hid (Below.grown (hB.out.alloc hs (.cells #[.int .i64 (((x:Int)+(y:Int)+1)%1000000000)] 3)) hgrow (by simp;omega) (fun j hj=>by have:=(hO.out.lt _ hj).1;omega));clear hown' hgrow
     go_wp2
     go_roundg g
     case rel=>exact⟨k+1,s/B9,L++[s%B9],by go_num,by rw[Q1.out],by have:=Hk.out;omega,HS,HZ3,HO',HB'⟩
     case measure=>omega
  ·have hk1:p.length≤k:=by omega
   have hk2:q.length≤k:=by omega
   have hc0:c'=0:=by omega
   have HL:=hid (hI.out.last hk1 hk2 hc0);have HOL:=hid hI.out.2.1
   have h1I:¬(k:Int)<(p.length:Int):=by omega
   have h2I:¬(k:Int)<(q.length:Int):=by omega
   have HSL:=hid (x9 hO.out (by omega));subst hc0;clear hk1 hk2 hI hZ hk hgo
   go_wp2
   go_ret;exact⟨_,_,rfl,HL.out,HOL.out,HSL.out,hB.out⟩
def yD (p q:List Nat) (k b:Nat) (L:List Nat):Prop:=L.length=k∧jI L∧b≤1∧jb (p.take k)+B9^k*b=jb L+jb (q.take k)
theorem yD.start (p q:List Nat):yD p q 0 0 []:=⟨rfl,KA,by omega,by simp[jb]⟩
theorem yD.step {p q:List Nat} {k b:Nat} {L:List Nat} (h:yD p q k b L) {d b':Nat} (hd:d<B9) (hb:b'≤1) (he:p[k]?.getD 0+B9*b'=d+q[k]?.getD 0+b):yD p q (k+1) b' (L++[d]):=by
 obtain⟨h1,h2,h3,h4⟩:=h;unfold yD;rw[Xs,Xs,Jw,h1,QaD,Qal];generalize p[k]?.getD 0=x at *;generalize q[k]?.getD 0=y at *
 have e2:B9^k*(x+B9*b')=B9^k*(d+y+b):=by rw[he]
 rw[Qau,Qau,Qau] at e2;refine⟨by simp[h1],Kz.2 ⟨h2,JX.2 hd⟩,hb,?_⟩;generalize B9^k=P at *;generalize P*(B9*b')=Z1 at *;generalize P*d=Z2 at *;generalize P*x=Z3 at *;generalize P*y=Z4 at *;generalize P*b=Z5 at *;omega
theorem yD.last {p q:List Nat} {b:Nat} {L:List Nat} (h:yD p q p.length b L) (hl:q.length≤p.length) (hle:jb q≤jb p):jb L=jb p-jb q:=by
 obtain⟨h1,h2,h3,h4⟩:=h;rw[Qad (Nat.le_refl _),Qad hl] at h4;have h5:=qN h2;rw[h1] at h5;rcases QaA b with h0 | h0
 ·rw[h0,QbF] at h4;omega
 ·have:B9^p.length*1≤B9^p.length*b:=Qan _ h0
  omega
theorem Bn {p q:List Nat} (nq:kp q) (op:jI p) (hle:jb q≤jb p):q.length≤p.length:=by
 rcases Qae p.length q.length with h | h
 ·have:=Xp op nq h;omega
 ·exact h
theorem Em (v u:Value) (x y:Nat) (w:World) (hv:Dg w v x) (hu:Dg w u y) (hle:y≤x) (hx:jQ x):
  Calls Tryz.prog 209 #[v,u] w (XD (x-y) w):=by
 obtain⟨p,A,c,rfl,e1,o1,n1,l1,l2,s1⟩:=hv.open_;obtain⟨q,B,d,rfl,e2,o2,n2,m1,m2,s2⟩:=hu.open_;have hp6:=hx.len n1 e1;subst e1 e2;have HLE:=hid hle;have HQL:=hid (Bn n2 o1 hle);obtain⟨i0,hi,hz0,hz1,hz2⟩:=info_parts zd;have HV:=hid s1;have HU:=hid s2;have HOP:=hid o1;have HOQ:=hid o2;clear hv hu s1 s2 o1 o2 hle hx n1 n2;go_enter Tryz.func209,Tryz.ntmps209
 go_wp2_with fail
 go_loopg [5,6,7,8] p.length (fun g out br i _ wr=>∃(k b:Nat) (L:List Nat),i = .int .i64 (k:Int)∧br = .int .i64 (b:Int)∧k+g=p.length∧Hid (yD p q k b L)∧Hid (wr.ownsRow w.heap.size 3 1 out k (jm L))∧Hid (Below w.heap.size w wr))
 case atStart=>exact⟨0,0,[],rfl,rfl,by omega,hid (yD.start p q),hid (World.ownsRow_nil _ _ _ _),hid (Below.refl _ _)⟩
 case round=>
  obtain⟨k,b,L,rfl,rfl,hk,hI,hO,hB⟩:=hrel
  cases gk with
  | zero=>
   have hkp:k=p.length:=by omega
   subst hkp;obtain⟨A7,k7,hvf,hv1,hv2⟩:=jX hO.out;subst hvf;have HL:=hid (hI.out.last HQL.out HLE.out);have hLl:L.length=p.length:=hI.out.1;have TR:=hid (Yz A7 k7 L wr (by have h:=x9 hO.out (by omega);rw[←hLl] at h;exact h));rw[hLl] at TR;have HOL:=hid hI.out.2.1
   have hin:¬(p.length:Int)<(p.length:Int):=by omega
   clear hI hk hO hLl
   go_wp2_with fail
   refine TR.out.mono ?_;rintro e w2 ⟨rfl,hsl,rfl⟩;have HSL:=hid hsl;clear hsl TR
   go_wp2
   go_ret;exact⟨_,rfl,by rw[←HL.out];exact Dg.of_trim HOL.out HSL.out,hB.out⟩
  | succ g=>
   have hlt:k<p.length:=by omega
   have hltI:(k:Int)<(p.length:Int):=by omega
   have hkm:k≤1000000:=by omega
   have hs:=hB.out.size;obtain⟨b1,off1,rfl,hbb1,hcell1⟩:=HV.out.at_ (k:=k) (by rw[kh];omega);have hck1:=(hB.out.cell (p:=⟨b1,off1+k,none⟩) hbb1).trans ((hcell1 k (by rw[kh];omega)).trans (qq p k hlt));have D2:Hid (∀n,Calls Tryz.prog 223 #[.slice B q.length d,.int .i64 (k:Int)] (wr.drewN n) fun e w'=>e = .returned (.int .i64 ((q[k]?.getD 0:Nat):Int))∧w'=wr.drewN n):=hid (fun n=>(Ze _ q k _ (HU.out.below (below_drewN hB.out n))).mono fun _ _ h=>⟨h.1,h.2.symm⟩);have hx9:=kR HOP.out k;have hy9:=kR HOQ.out k;have HST:=hid (fun d b' h1 h2 h3=>hI.out.step (d:=d) (b':=b') h1 h2 h3);have hb1:b≤1:=hI.out.2.2.1;generalize p[k]?.getD 0=x at *;generalize q[k]?.getD 0=y at *
   have hxI:(x:Int)<1000000000:=by unfold B9 at hx9;omega
   have hyI:(y:Int)<1000000000:=by unfold B9 at hy9;omega
   have hbI:(b:Int)≤1:=by omega
   have W1:IntKind.i64.wrap ((x:Int)-(y:Int))=(x:Int)-(y:Int):=IntWalk.i64_in _ (by omega);have W2:IntKind.i64.wrap ((x:Int)-(y:Int)-(b:Int))=(x:Int)-(y:Int)-(b:Int):=IntWalk.i64_in _ (by omega);have Hk:=hid hk;clear hk hI hcell1;by_cases hneg:x<y+b
   ·have hnI:(x:Int)-(y:Int)-(b:Int)<0:=by omega
    obtain⟨dd,hdd,hd9⟩:∃dd:Nat,(x:Int)-(y:Int)-(b:Int)+1000000000=(dd:Int)∧dd<1000000000:=⟨x+1000000000-y-b,by omega,by omega⟩
    have HN:Hid (yD p q (k+1) 1 (L++[dd])):=hid (HST.out dd 1 (by unfold B9;omega) (by omega) (by unfold B9;omega));have HD:=hid hdd;clear hneg hdd HST hx9 hy9
    go_wp2_with fail
    go_quiet ((go_at_call 223;exact Calls.quiet_of_same (D2.out _)))
    clear W1 W2
    go_wp2_with (at_builtin;(refine wpList_append_own _ rfl _ _ 41 rfl w.heap.size 3 i0 (.int .i64 0) 1 8 Tryz.underlying41 hi hz0 hz1 hz2 rfl (by decide) _ _ _ rfl ((GO hO.out nq).alloc _) ⟨wr.heap.size,0,none⟩ 1 1 [.int .i64 ((x:Int)-(y:Int)-(b:Int)+1000000000)] rfl rfl (cell_one_new _ _ _) (fun x hx=>by simp at hx;subst hx;rfl) (by unfold maxLen;omega) (by omega) (by simp;omega) ?_;intro v' w1 hown' hgrow _))
    rw[HD.out,←x7] at hown';have HO':=hid hown';have HB':=hid (Below.grown ((below_drewN hB.out nq).alloc hs (.cells #[.int .i64 ((x:Int)-(y:Int)-(b:Int)+1000000000)] 3)) hgrow (by simp;omega) (fun j hj=>by have:=(hO.out.lt _ hj).1;omega));clear hown' hgrow
    go_wp2
    go_roundg g
    case rel=>exact⟨k+1,1,L++[dd],by go_num,rfl,by have:=Hk.out;omega,HN,HO',HB'⟩
    case measure=>omega
   ·have hnI:decide ((x:Int)-(y:Int)-(b:Int)<0)=false:=Qat (by omega)
    obtain⟨dd,hdd,hd9⟩:∃dd:Nat,(x:Int)-(y:Int)-(b:Int)=(dd:Int)∧dd<1000000000:=⟨x-y-b,by omega,by omega⟩
    have HN:Hid (yD p q (k+1) 0 (L++[dd])):=hid (HST.out dd 0 (by unfold B9;omega) (by omega) (by unfold B9;omega));have HD:=hid hdd;clear hneg hdd HST hx9 hy9
    go_wp2_with fail
    go_quiet ((go_at_call 223;exact Calls.quiet_of_same (D2.out _)))
    clear W1 W2
    go_wp2_with (at_builtin;(refine wpList_append_own _ rfl _ _ 41 rfl w.heap.size 3 i0 (.int .i64 0) 1 8 Tryz.underlying41 hi hz0 hz1 hz2 rfl (by decide) _ _ _ rfl ((GO hO.out nq).alloc _) ⟨wr.heap.size,0,none⟩ 1 1 [.int .i64 ((x:Int)-(y:Int)-(b:Int))] rfl rfl (cell_one_new _ _ _) (fun x hx=>by simp at hx;subst hx;rfl) (by unfold maxLen;omega) (by omega) (by simp;omega) ?_;intro v' w1 hown' hgrow _))
    rw[HD.out,←x7] at hown';have HO':=hid hown';have HB':=hid (Below.grown ((below_drewN hB.out nq).alloc hs (.cells #[.int .i64 ((x:Int)-(y:Int)-(b:Int))] 3)) hgrow (by simp;omega) (fun j hj=>by have:=(hO.out.lt _ hj).1;omega));clear hown' hgrow
    go_wp2
    go_roundg g
    case rel=>exact⟨k+1,0,L++[dd],by go_num,rfl,by have:=Hk.out;omega,HN,HO',HB'⟩
    case measure=>omega
end Go.Proofs.YteagkgagdelklaaGreatDoor
namespace Go.Proofs.YteagkgagdelklaaGreatDoor
open Go.RowKit
def qx (q:Rat):Value:= .string ⟨(jh q).toArray⟩
def kF (L:List Rat):List Value:=L.map qx
theorem Jg (L:List Rat):(kF L).length=L.length:=by simp[kF]
theorem Yg (L:List Rat) (k:Nat) (h:k<L.length):(kF L)[k]? =some (qx (L[k]?.getD 0)):=by simp[kF,h]
theorem Ul (L:List Rat) (k:Nat) (x:Rat):(kF L).set k (qx x)=kF (L.set k x):=by simp[kF,List.map_set]
def yk (w:World) (v:Value) (M:List (List Rat)):Prop:=
 ∃vs:List Value,jD w v vs∧vs.length=M.length ∧ ∀(i:Nat) (r:List Rat),M[i]? =some r → ∃u,vs[i]? =some u∧jD w u (kF r)
structure kJ (w:World) (g cg:Nat) (R:List js) (n:Nat):Prop where
 own:Us w 50 g R.length cg (R.map (jV n))
 row:∀r∈R,Us w 37 r.1 n r.2.1 (kF r.2.2)
 apart:(R.map (·.1)).Nodup
section
variable {w w':World} {g cg n:Nat} {R:List js}
theorem kJ.len (h:kJ w g cg R n) {r:js} (hr:r∈R):r.2.2.length=n:=by have:=(h.row r hr).1;rwa [Jg] at this
theorem kJ.gne (h:kJ w g cg R n) {r:js} (hr:r∈R):g≠r.1:=h.own.apart (h.row r hr) (by decide)
theorem kJ.keep (h:kJ w g cg R n) (hk:∀k,k=g∨k∈R.map (·.1)→w'.heap[k]? =w.heap[k]?):kJ w' g cg R n:=
 ⟨h.own.keep (hk g (.inl rfl)),fun r hr=>(h.row r hr).keep (hk r.1 (.inr (Qa1 hr))),h.apart⟩
theorem kJ.lt (h:kJ w g cg R n) {k:Nat} (hk:k=g∨k∈R.map (·.1)):k<w.heap.size:=by
 rcases hk with rfl | hk
 ·exact h.own.lt
 ·obtain⟨r,hr,rfl⟩:=List.mem_map.1 hk
  exact(h.row r hr).lt
theorem kJ.below (h:kJ w g cg R n) (hb:Below w.heap.size w w'):kJ w' g cg R n:=h.keep fun _ hk=>hb.block _ (h.lt hk)
theorem kJ.setRow (h:kJ w g cg R n) {i:Nat} {r:js} (hr:R[i]? =some r) {L:List Rat} (hO:Us w' 37 r.1 n r.2.1 (kF L)) (hb:jk r.1 w w'):kJ w' g cg (setRow R i L) n:=by
 refine⟨?_,?_,?_⟩
 ·have e:(Go.Proofs.YteagkgagdelklaaGreatDoor.setRow R i L).map (jV n)=R.map (jV n):=UC i L (fun b c=>Value.slice (some ⟨b,0,none⟩) n c)
  rw[e,Ke];exact h.own.keep (hb.block g h.own.lt (h.gne (Qab hr)))
 ·intro x hx
  obtain⟨k,hk⟩:=List.mem_iff_getElem?.1 hx;by_cases hik:i=k
  ·subst hik
   rw[qG hr] at hk;obtain rfl:=QaE hk;exact hO
  ·rw[xQ hik] at hk
   have:=h.row x (Qab hk);exact this.keep (hb.block x.1 this.lt (ZY h.apart hk hr (fun e=>hik e.symm)))
 ·rw[Kd];exact h.apart
theorem kJ.swap (h:kJ w g cg R n) {i j:Nat} {a b:js} (hi:R[i]? =some a) (hj:R[j]? =some b):kJ ((w.setCell ⟨g,i,none⟩ (jV n b)).setCell ⟨g,j,none⟩ (jV n a)) g cg (kU R i j) n:=by
 refine⟨?_,?_,?_⟩
 ·rw[QZ,K5 hi hj,QbO,QbO]
  exact(h.own.put _ _).put _ _
 ·intro x hx
  have hx:=Ki hx;exact((h.row x hx).other (p:=⟨g,i,none⟩) (fun e=>h.gne hx e.symm) _).other (p:=⟨g,j,none⟩) (fun e=>h.gne hx e.symm) _
 ·exact((K4 R i j).map _).nodup_iff.2 h.apart
theorem kJ.cellRow (h:kJ w g cg R n) {i:Nat} {r:js} (hr:R[i]? =some r):w.cell? ⟨g,i,none⟩=some (jV n r):=by
 have hi:i<R.length:=(List.getElem?_eq_some_iff.1 hr).1;rw[h.own.cell hi,Qao,hr];rfl
theorem kJ.cellNum (h:kJ w g cg R n) {i j:Nat} {r:js} (hr:R[i]? =some r) (hj:j<n):w.cell? ⟨r.1,j,none⟩=some (qx (r.2.2[j]?.getD 0)):=by
 have hm:=Qab hr;exact((h.row r hm).cell hj).trans (Yg _ _ (by rw[h.len hm];exact hj))
theorem kJ.setNum (h:kJ w g cg R n) {i j:Nat} {r:js} (hr:R[i]? =some r) (x:Rat):kJ (w.setCell ⟨r.1,j,none⟩ (qx x)) g cg (Go.Proofs.YteagkgagdelklaaGreatDoor.setRow R i (r.2.2.set j x)) n:=by
 have hm:=Qab hr;exact h.setRow hr (by rw[←Ul];exact(h.row r hm).put _ _) ((jk.refl r.1 w).setCell ⟨r.1,j,none⟩ rfl _)
theorem kJ.good (h:kJ w g cg R n) {P:Rat→Prop} (hI:∀r∈R,∀x∈r.2.2,P x) {m:Nat} (hm:R.length=m):qH P m n R:=by
 refine⟨hm,fun i hi=> ?_⟩;have e:=Qaa (l:=R) (i:=i) (by omega);rw[qF e];have hm:=Qab e;exact⟨h.len hm,hI _ hm⟩
theorem kJ.tblX (h:kJ w g cg R n) {k:Nat} (hk:k≤R.length) (hR:R.length≤140737488355328) (hn:n≤140737488355328):yk w (.slice (some ⟨g,0,none⟩) k cg) ((R.take k).map (·.2.2)):=by
 refine⟨_,h.own.slW hk hR,by simp,fun i r hr=> ?_⟩;rw[Qao] at hr
 cases hb:(R.take k)[i]? with
 | none=>rw[hb] at hr;cases hr
 | some x=>
  rw[hb] at hr;obtain rfl:=QaE hr;have hx:=Qbp (Qab hb);have hs:=(h.row x hx).slW (Nat.le_refl n) hn;have hl:=(h.row x hx).1;rw[Qad (by omega)] at hs;exact⟨jV n x,by rw[←List.map_take,Qao,hb];rfl,hs⟩
end
structure qz (w:World) (base n:Nat) (v:Value) (vs:List Value) (Ls:List (List Rat)):Prop where
 own:w.ownsRow base 50 1 v Ls.length vs
 row:∀(i:Nat) (L:List Rat),Ls[i]? =some L → ∃u,vs[i]? =some u∧w.ownsRow base 37 1 u n (kF L)
 apart:∀(i j:Nat) (a b:Value),i<j→vs[i]? =some a→vs[j]? =some b → ∀k,a.ownBlock=some k→b.ownBlock≠some k
section
variable {w w':World} {base n:Nat} {v:Value} {vs:List Value} {Ls:List (List Rat)}
theorem qz.nil (w:World) (base n:Nat):qz w base n jn [] []:=⟨World.ownsRow_nil _ _ _ _,fun i L h=>by simp at h,fun i j a b _ h=>by simp at h⟩
theorem qz.below (h:qz w base n v vs Ls) (hb:Below w.heap.size w w'):qz w' base n v vs Ls:=
 ⟨kD h.own hb,fun i L hL=>by obtain⟨u,hu,ho⟩:=h.row i L hL;exact⟨u,hu,kD ho hb⟩,h.apart⟩
theorem qz.vlen (h:qz w base n v vs Ls):vs.length=Ls.length:=by have:=h.own.1;omega
theorem qz.snoc (h:qz w base n v vs Ls) {w0:World} {v' u:Value} {L:List Rat} (hg:w.grownBy w' v.ownBlock) (hown:w'.ownsRow base 50 1 v' (Ls.length+1) (vs++[u]))
  (hu:w.ownsRow w0.heap.size 37 1 u n (kF L)) (h0:qz w0 base n v vs Ls) (hb:base≤w0.heap.size):qz w' base n v' (vs++[u]) (Ls++[L]):=by
 have hne:∀x xs B,w.ownsRow B 37 1 x n xs→v.ownBlock=none∨v.ownBlock≠x.ownBlock:=by
  intro x xs B hx
  cases hv:v.ownBlock with
  | none=>exact .inl rfl
  | some k=>exact .inr (fun e=>Y5 (zJ h.own (Nat.zero_le _)) (zJ hx (Nat.zero_le _)) (by decide) k hv e.symm)
 have hk:∀x xs B,w.ownsRow B 37 1 x n xs→w'.ownsRow B 37 1 x n xs:=by
  intro x xs B hx
  refine xt hx fun k hk hv=>hg.block k hk (fun e=> ?_)
  rcases hne x xs B hx with h1 | h1
  ·rw[h1] at e;cases e
  ·exact h1 (e.symm.trans hv.symm)
 have hvl:=h.vlen;refine⟨by rw[Qaf];exact hown,fun i K hK=> ?_,fun i j a b hij ha hb' k hka=> ?_⟩
 ·rcases Qae i Ls.length with hi | hi
  ·rw[QaB hi] at hK
   obtain⟨x,hx,ho⟩:=h.row i K hK;exact⟨x,by rw[QaB (by omega)];exact hx,hk _ _ _ ho⟩
  ·rw[QaH hi] at hK
   have hi0:i-Ls.length=0:=by
    rcases QaA (i-Ls.length) with h1 | h1
    ·exact h1
    ·rw[Qah (by simp;omega)] at hK;cases hK
   rw[hi0] at hK
   obtain rfl:L=K:=by simpa using hK
   exact⟨u,by rw[QaH (by omega),show i-vs.length=0 by omega];rfl,hk _ _ _ (zJ hu hb)⟩
 ·rcases Qae j vs.length with hj | hj
  ·rw[QaB (by omega)] at ha
   rw[QaB hj] at hb';exact h.apart i j a b hij ha hb' k hka
  ·rw[QaH hj] at hb'
   have hj0:j-vs.length=0:=by
    rcases QaA (j-vs.length) with h1 | h1
    ·exact h1
    ·rw[Qah (by simp;omega)] at hb';cases hb'
   rw[hj0] at hb'
   obtain rfl:u=b:=by simpa using hb'
   have hi:i<vs.length:=by omega
   rw[QaB hi] at ha;obtain⟨x,hx,ho⟩:=h0.row i _ (Qaa (by omega));rw[ha] at hx;obtain rfl:=QaE hx;have l1:=(ho.lt k hka).2;intro e;have l2:=(hu.lt k e).1;omega
theorem qz.mx (h:qz w base n v vs Ls) (hn:0<n) (hm:0<Ls.length):∃(g cg:Nat) (R:List js),v = .slice (some ⟨g,0,none⟩) Ls.length cg∧R.map (·.2.2)=Ls∧base≤g∧(∀k∈R.map (·.1),base≤k)∧kJ w g cg R n:=by
 obtain⟨g,cg,rfl,hbg,hU⟩:=Us.of_owns h.own hm;have hvl:=h.vlen
 have hrow:∀i:Fin Ls.length,∃r:js,r.2.2=Ls[i]∧vs[i.1]? =some (jV n r)∧base≤r.1∧Us w 37 r.1 n r.2.1 (kF r.2.2):=by
  intro i;obtain⟨u,hu,ho⟩:=h.row i.1 _ (Qaa i.2);obtain⟨b,c,rfl,hb,hU⟩:=Us.of_owns ho hn;exact⟨(b,c,Ls[i]),rfl,hu,hb,hU⟩
 let f:Fin Ls.length→js:=fun i=>Classical.choose (hrow i)
 have hf:∀i,(f i).2.2=Ls[i]∧vs[i.1]? =some (jV n (f i))∧base≤(f i).1∧Us w 37 (f i).1 n (f i).2.1 (kF (f i).2.2):=fun i=>Classical.choose_spec (hrow i)
 have hmem:∀r∈List.ofFn f,∃i,f i=r:=fun r hr=>List.mem_ofFn.1 hr
 have e1:(List.ofFn f).map (·.2.2)=Ls:=by
  apply List.ext_getElem
  ·simp
  ·intro i h1 h2
   simp only[List.getElem_map,List.getElem_ofFn];exact(hf ⟨i,h2⟩).1
 have e2:(List.ofFn f).map (jV n)=vs:=by
  apply List.ext_getElem
  ·simp;omega
  ·intro i h1 h2
   simp only[List.getElem_map,List.getElem_ofFn];have:=(hf ⟨i,by omega⟩).2.1;rw[Qaa h2] at this;exact(QaE this).symm
 refine⟨g,cg,List.ofFn f,rfl,e1,hbg,fun k hk=> ?_,?_,fun r hr=> ?_,?_⟩
 ·obtain⟨r,hr,rfl⟩:=List.mem_map.1 hk
  obtain⟨i,rfl⟩:=hmem r hr;exact(hf i).2.2.1
 ·rw[e2,List.length_ofFn];exact hU
 ·obtain⟨i,rfl⟩:=hmem r hr
  exact(hf i).2.2.2
 ·rw[List.Nodup,List.pairwise_iff_getElem]
  intro i j hi hj hij e;simp only[Qar,List.length_ofFn] at hi hj;simp only[List.getElem_map,List.getElem_ofFn] at e;exact h.apart i j _ _ hij (hf ⟨i,hi⟩).2.1 (hf ⟨j,hj⟩).2.1 (f ⟨i,hi⟩).1 rfl (by show some (f ⟨j,hj⟩).1=_;rw[e])
end
end Go.Proofs.YteagkgagdelklaaGreatDoor
namespace Go.Proofs.YteagkgagdelklaaGreatDoor
open Go.RowKit Go.Lib
theorem Cm (L:List Nat):jm L=je (L.map fun (x:Nat)=>(x:Int)):=by simp[jm,je,Function.comp_def]
theorem Nd (L:List Nat) (k:Nat):(L.map fun (x:Nat)=>(x:Int)).contains (k:Int)=L.contains k:=by
 induction L with
 | nil=>rfl
 | cons a t ih=>
  rw[List.map_cons,List.contains_cons,List.contains_cons,ih]
  congr 1
  by_cases h:k=a
  ·subst h;simp
  ·rw[beq_false_of_ne h,beq_false_of_ne (by omega)]
