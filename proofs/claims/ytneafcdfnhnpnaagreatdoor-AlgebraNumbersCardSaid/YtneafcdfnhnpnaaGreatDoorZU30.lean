/- Contract: conditionsOfRefutation. -/
import Derived.Test.YtneafcdfnhnpnaaGreatDoorZU29
import Derived.Test.YtneafcdfnhnpnaaGreatDoorZU07
import Derived.Test.YtneafcdfnhnpnaaGreatDoorZU02
import Derived.Test.YtneafcdfnhnpnaaGreatDoorZSh
import Derived.Laws.IdiomCopy
import Derived.Lib.LazyBuf
import Derived.Deep.Upon
import Derived.Deep.LoopGhost
set_option maxRecDepth 100000
set_option maxHeartbeats 4000000
namespace Go.Proofs.YtneafcdfnhnpnaaGreatDoor
open Go.RowKit Go.Lib
def EqsQ (w:World) (base:Nat) (v:Value) (B:List RowR):Prop:=
 w.ownsRow base 167 1 v B.length (B.map fun r=>Value.slice (some ⟨r.1,0,none⟩) r.2.2.length r.2.1)∧AllIn w NoU v ∧ ∀r∈B,(∃es,RowQ w r.1 es r.2.2)∧r.2.2.length≤r.2.1
theorem EqsQ.below {w w':World} {base:Nat} {v:Value} {B:List RowR} (h:EqsQ w base v B) (hb:Below w.heap.size w w'):EqsQ w' base v B:=
 ⟨oBelow h.1 hb,cinBelow h.2.1 h.1 hb,fun r hr=>⟨by obtain⟨es,he⟩:=(h.2.2 r hr).1;exact⟨es,he.below hb⟩,(h.2.2 r hr).2⟩⟩
theorem EqsQ.keep {w w':World} {base:Nat} {v:Value} {B:List RowR} (h:EqsQ w base v B) (hK:Keeps w w') (hv:∀k,v.ownBlock=some k→w'.heap[k]? =w.heap[k]?) (hk:∀r∈B,w'.heap[r.1]? =w.heap[r.1]?):EqsQ w' base v B:=
 ⟨oKeep h.1 (fun k _ e=>hv k e),h.2.1.same hv,fun r hr=>⟨by obtain⟨es,he⟩:=(h.2.2 r hr).1;exact⟨es,he.keeps hK (hk r hr)⟩,(h.2.2 r hr).2⟩⟩
theorem EqsQ.snoc {w w':World} {base:Nat} {v v':Value} {B:List RowR} {r:RowR} (h:EqsQ w base v B) (hg:w.grownBy w' v.ownBlock) (hown:w'.ownsRow base 167 1 v' (B.length+1) (B.map (fun r=>Value.slice (some ⟨r.1,0,none⟩) r.2.2.length r.2.1)++[.slice (some ⟨r.1,0,none⟩) r.2.2.length r.2.1]))
  (hall:AllIn w' NoU v') (hO:∃es,RowQ w r.1 es r.2.2) (hl:r.2.2.length≤r.2.1):EqsQ w' base v' (B++[r]):=by
 have hK:=Keeps.grown hg h.1 h.2.1
 have hk:∀(k:Nat) (es:List El) (q:List Rat),RowQ w k es q→RowQ w' k es q:=fun k es q hq=>hq.keeps hK (hg.block k hq.own.lt (fun e=>own_ne hq.own h.1 (by decide) e.symm))
 refine⟨by rw[List.map_append,List.length_append];exact hown,hall,fun x hx=> ?_⟩
 rcases List.mem_append.1 hx with hx | hx
 ·have:=h.2.2 x hx
  obtain⟨es,he⟩:=this.1
  exact⟨⟨es,hk _ _ _ he⟩,this.2⟩
 ·obtain rfl:=List.mem_singleton.1 hx
  obtain⟨es,he⟩:=hO
  exact⟨⟨es,hk _ _ _ he⟩,hl⟩
theorem PivQ.snoc {w w':World} {base:Nat} {v v':Value} {V:List Rat} {es:List El} (ho:w.ownsRow base 122 3 v V.length (ecells es)) (hl:es.length=V.length) (ha0:AllIn w NoU v) (hr:∀(i:Nat) (e:El) (q:Rat),es[i]? =some e→V[i]? =some q→Rt w (elV e) q)
  {e:El} {x:Rat} (hx:Rt w (elV e) x) (hown:w'.ownsRow base 122 3 v' (V.length+1) (ecells es++elC e)) (hall:AllIn w' NoU v') (hg:w.grownBy w' v.ownBlock):PivQ w' base v' (V++[x]):=by
 have hK:=Keeps.grown hg ho ha0
 refine⟨es++[e],by rw[ecells_snoc,List.length_append];exact hown,by simp[hl],hall,fun i e' q he hq=> ?_⟩
 rcases Nat.lt_or_ge i es.length with hi | hi
 ·rw[List.getElem?_append_left hi] at he
  rw[List.getElem?_append_left (by omega)] at hq
  exact(hr i e' q he hq).keeps hK
 ·rw[List.getElem?_append_right hi] at he
  rw[List.getElem?_append_right (by omega)] at hq
  rw[←hl] at hq
  have h0:i-es.length=0:=by
   rcases Nat.eq_zero_or_pos (i-es.length) with h0 | h0
   ·exact h0
   ·rw[List.getElem?_eq_none (by simp;omega)] at he;cases he
  rw[h0] at he hq
  simp at he hq
  subst he hq
  exact hx.keeps hK
theorem PivQ.grown {w w':World} {base:Nat} {v:Value} {V:List Rat} {u:Value} {e:TypeId} {s n:Nat} {xs:List Value} {base':Nat} (h:PivQ w base v V) (hg:w.grownBy w' u.ownBlock) (ho:w.ownsRow base' e s u n xs) (ha:AllIn w NoU u) (hte:122≠e):PivQ w' base v V:=by
 refine h.keep (Keeps.grown hg ho ha) fun k hk=>hg.block k (h.lt k hk).2 ?_
 obtain⟨es,hp,_⟩:=h
 exact fun e'=>own_ne2 hp ho hte k hk e'.symm
theorem EqsQ.grown {w w':World} {base:Nat} {v:Value} {B:List RowR} {u:Value} {s n:Nat} {xs:List Value} {base':Nat} (h:EqsQ w base v B) (hg:w.grownBy w' u.ownBlock) (ho:w.ownsRow base' 122 s u n xs) (ha:AllIn w NoU u) (hB:∀r∈B,u.ownBlock≠some r.1):EqsQ w' base v B:=by
 refine h.keep (Keeps.grown hg ho ha) (fun k hk=>hg.block k (h.1.lt k hk).2 (fun e'=>own_ne2 h.1 ho (by decide) k hk e'.symm)) (fun r hr=> ?_)
 obtain⟨es,he⟩:=(h.2.2 r hr).1
 exact hg.block r.1 he.own.lt (fun e'=>hB r hr e'.symm)
def colL (M:List (List Rat)) (j:Nat):List Rat:=M.map fun L=>L[j]?.getD 0
def condPost (n:Nat) (M:List (List Rat)) (b:List Rat) (w:World) (e:Ending) (w':World):Prop:=
 ∃ev B sv,e = .returned (.tuple #[ev,sv])∧B.map (·.2.2)=(List.range n).map (colL M)++[b]∧EqsQ w' w.heap.size ev B∧PivQ w' w.heap.size sv (List.replicate n 0++[1])∧Below w.heap.size w w'
theorem of0R (w:World):Calls Tryz.prog 125 #[.int .i64 0] w (ratPost 0 w):=by simpa using rationalOf_c 0 w (by omega) (by omega)
theorem of1R (w:World):Calls Tryz.prog 125 #[.int .i64 1] w (ratPost 1 w):=by simpa using rationalOf_c 1 w (by omega) (by omega)
theorem conditions_c (g c n bR cR:Nat) (R:List RowR) (esR:List El) (b:List Rat) (w:World) (hM:MxR w g R n) (hc2:R.length≤1000000) (hn:n≤999999) (h0:R=[]→n=0)
  (hb:RowQ w bR esR b) (hbl:b.length=R.length) (hcR:b.length≤cR):
  Calls Tryz.prog 156 #[.slice (some ⟨g,0,none⟩) R.length c,.slice (some ⟨bR,0,none⟩) R.length cR] w (condPost n (valsT R) b w):=by
 have HM:=hid hM
 have HB:=hid hb
 have HBl:=hid hbl
 have HcR:=hid hcR
 have WD:Hid (Calls Tryz.prog 159 #[.slice (some ⟨g,0,none⟩) R.length c] w fun e w'=>e = .returned (.int .i64 (n:Int))∧w=w'):=hid (by
  have h:=widthR_c g c n R w hM
  by_cases hR:R=[]
  ·rw[if_pos hR] at h;rw[h0 hR];exact h
  ·rw[if_neg hR] at h;exact h)
 clear hM hb hbl hcR h0
 obtain⟨i0,hi0,hz0,hz1,hz2⟩:=info_parts info_slr
 obtain⟨j0,hj0,hw0,hw1,hw2⟩:=info_parts info_rational
 go_enter Tryz.func156,Tryz.ntmps156
 go_wp2_with (go_at_call 159;refine WD.out.mono ?_;rintro e w' ⟨rfl,rfl⟩)
 clear WD
 go_loopg [4,5,12] n (fun gh ev sv jx wr=>∃(j:Nat) (B:List RowR),jx = .int .i64 j∧j+gh=n∧B.length=j∧Hid (B.map (·.2.2)=(List.range j).map (colL (valsT R)))∧Hid (∀r∈B,∃cs,Own wr r.1 122 cs∧w.heap.size≤r.1∧sv.ownBlock≠some r.1)∧Hid (EqsQ wr w.heap.size ev B)∧Hid (PivQ wr w.heap.size sv (List.replicate j 0))∧Hid (Below w.heap.size w wr))
 case atStart=>exact⟨0,[],rfl,by omega,rfl,hid rfl,hid (by simp),hid ⟨World.ownsRow_nil _ _ _ _,AllIn.nil _ _,by simp⟩,hid ⟨[],World.ownsRow_nil _ _ _ _,rfl,AllIn.nil _ _,fun i e q h=>by simp at h⟩,hid (Below.refl _ _)⟩
 case round=>
  obtain⟨j,B,rfl,hj,hBl,hBv,hBo,hE,hS,hW⟩:=hrel
  obtain⟨A4,c4,hev,_,_⟩:=oForm hE.out.1
  obtain⟨A5,c5,hsv,_,_⟩:=hS.out.form
  rw[List.length_replicate] at hsv
  rw[hBl] at hev
  subst hev hsv
  have hal:Hid (∀o:Obj,Below wr.heap.size wr (wr.alloc o)):=hid (fun o=>(Below.refl _ _).alloc (Nat.le_refl _) _)
  have hww:=hW.out.size
  cases gk with
  | zero=>
   have hin:¬((j:Int)<(n:Int)):=by omega
   have hjn:j=n:=by omega
   subst hjn
   have hcb:b.length≤cR:=HcR.out
   rw[←HBl.out]
   have HB2:=hid (HB.out.below hW.out)
   have hBR:bR<w.heap.size:=HB.out.own.lt
   have hE1:=hE.out.1
   rw[hBl] at hE1
   have HE1:=hid hE1
   have HBL:=hid hBl
   clear hE1 hBl hj
   go_wp2_with (at_builtin;(refine wpList_append_all _ (o:=⟨some 45,_,_,_,_,_⟩) rfl _ _ 163 rfl w.heap.size 167 i0 (.slice none 0 0) 1 24 Tryz.underlying163 hi0 hz0 hz1 hz2 rfl (by decide) _ _ _ rfl (HE1.out.alloc _) ⟨wr.heap.size,0,none⟩ 1 1 [.slice (some ⟨bR,0,none⟩) b.length cR] rfl rfl (cell_one_new _ _ _) (fun x hx=>by simp at hx;subst hx;rfl) (by unfold maxLen;omega) (by omega) (by simp;omega) (by decide) NoU (cinBelow hE.out.2.1 HE1.out (hal.out _)) (news_sl _ _ _) zero_sl ?_;intro v7 w7 hown7 hgrow7 hall7))
   have hg7:(wr.alloc (.cells #[.slice (some ⟨bR,0,none⟩) b.length cR] 167)).grownBy w7 (Value.slice A4 j c4).ownBlock:=hgrow7
   have HE7:Hid (EqsQ w7 w.heap.size v7 (B++[(bR,cR,b)])):=hid ((hE.out.below (hal.out _)).snoc (r:=(bR,cR,b)) hg7 (by rw[HBL.out];exact hown7) hall7 ⟨esR,HB2.out.below (hal.out _)⟩ hcb)
   have HS7:=hid ((hS.out.below (hal.out (.cells #[.slice (some ⟨bR,0,none⟩) b.length cR] 167))).grown hg7 (oBelow HE1.out (hal.out _)) (cinBelow hE.out.2.1 HE1.out (hal.out _)) (by decide))
   have HW7:Hid (Below w.heap.size w w7):=hid (Below.grown (hW.out.alloc hww _) hg7 (by simp;omega) (fun k hk=>(HE1.out.lt k hk).1))
   have HNE:Hid (∀r∈B++[((bR,cR,b):RowR)],(Value.slice A5 j c5).ownBlock≠some r.1):=hid (fun r hr=>by
    rcases List.mem_append.1 hr with hr | hr
    ·obtain⟨_,_,_,h⟩:=hBo.out r hr;exact h
    ·obtain rfl:=List.mem_singleton.1 hr
     intro e
     have:=(hS.out.lt _ e).1
     dsimp only at this
     omega)
   have HVals:Hid ((B++[((bR,cR,b):RowR)]).map (·.2.2)=(List.range j).map (colL (valsT R))++[b]):=hid (by rw[List.map_append,hBv.out];rfl)
   clear hown7 hgrow7 hg7 hall7 hE hS hBo hBv hW hal HE1
   generalize B++[((bR,cR,b):RowR)]=B7 at *
   refine(of1R _).mono ?_
   rintro e w8 ⟨ov,rfl,hov,hB8⟩
   obtain⟨os,O1,on1,oc1,O2,on2,oc2,rfl⟩:=hov.shape
   have HE8:=hid (HE7.out.below hB8)
   have HW8:=hid (HW7.out.trans (hB8.mono HW7.out.size))
   have hS8:=HS7.out.below hB8
   obtain⟨esS,ho8,hl8,ha8,hr8⟩:=hS8
   have ho8':=ho8
   rw[List.length_replicate] at ho8'
   have Ho8:=hid ho8'
   have Ho8l:=hid ho8
   have Hl8:=hid hl8
   have Ha8:=hid ha8
   have Hr8:=hid hr8
   have Hov:=hid hov
   have hal8:Hid (∀o:Obj,Below w8.heap.size w8 (w8.alloc o)):=hid (fun o=>(Below.refl _ _).alloc (Nat.le_refl _) _)
   have hw8:=HW8.out.size
   clear HE7 HS7 HW7 hB8 ho8 ho8' hl8 ha8 hr8 hov
   go_wp2_with (at_builtin;(refine wpList_append_all _ (o:=⟨some 49,_,_,_,_,_⟩) rfl _ _ 167 rfl w.heap.size 122 j0 ratZero 3 56 Tryz.underlying167 hj0 hw0 hw1 hw2 rfl (by decide) _ _ _ rfl (Ho8.out.alloc _) ⟨w8.heap.size,0,none⟩ 1 1 [.bool os,.slice O1 on1 oc1,.slice O2 on2 oc2] rfl rfl (cell_three_new _ _ _ _ _) (one_el _ _ _ _ _ _ _) (by unfold maxLen;omega) (by omega) (by simp;omega) (by decide) NoU (cinBelow Ha8.out Ho8.out (hal8.out _)) (news_el _ _ _ _ _ _ _) zero_rat ?_;intro v9 w9 hown9 hgrow9 hall9))
   have hg9:(w8.alloc (.cells #[.bool os,.slice O1 on1 oc1,.slice O2 on2 oc2] 122)).grownBy w9 (Value.slice A5 j c5).ownBlock:=hgrow9
   have HS9:Hid (PivQ w9 w.heap.size v9 (List.replicate j 0++[1])):=hid (PivQ.snoc (e:=(os,.slice O1 on1 oc1,.slice O2 on2 oc2)) (oBelow Ho8l.out (hal8.out _)) Hl8.out (cinBelow Ha8.out Ho8.out (hal8.out _)) (fun i e q h1 h2=>(Hr8.out i e q h1 h2).below (hal8.out _)) (Hov.out.below (hal8.out _)) (by rw[List.length_replicate];exact hown9) hall9 hg9)
   have HE9:Hid (EqsQ w9 w.heap.size v7 B7):=hid ((HE8.out.below (hal8.out _)).grown hg9 (oBelow Ho8.out (hal8.out _)) (cinBelow Ha8.out Ho8.out (hal8.out _)) HNE.out)
   have HW9:Hid (Below w.heap.size w w9):=hid (Below.grown (HW8.out.alloc hw8 _) hg9 (by simp;omega) (fun k hk=>(Ho8.out.lt k hk).1))
   clear hown9 hgrow9 hg9 hall9
   go_ret2
   exact⟨v7,B7,v9,rfl,HVals.out,HE9.out,HS9.out,HW9.out⟩
  | succ gh=>
   have hlt:j<n:=by omega
   have hlt':(j:Int)<(n:Int):=by omega
   have hmk:=make_rat wr zeroEl R.length hc2
   have HO:Hid (RowQ (wr.alloc (.cells (fillQ zeroEl R.length 0).toArray 122)) wr.heap.size (List.replicate R.length zeroEl) ((colL (valsT R) j).take 0)):=hid (by
    refine⟨?_,by simp,fun e he=> ?_,fun i e q h1 h2=>by simp at h2⟩
    ·have:=Own.make wr 122 (fillQ zeroEl R.length 0)
     rw[show fillQ zeroEl R.length 0=ecells (List.replicate R.length zeroEl) by simp[fillQ]] at this ⊢
     exact this
    ·rw[List.eq_of_mem_replicate he];exact⟨noInt_slice _ _ _,noInt_slice _ _ _⟩)
   have HCl:Hid ((colL (valsT R) j).length=R.length):=hid (by unfold colL;rw[List.length_map,vals_len])
   have Hj:=hid hj
   clear hj
   go_wp2_with fail
   clear hmk
   obtain⟨wb,rfl⟩:∃wb,wb=wr:=⟨_,rfl⟩
   go_loopg [20] R.length (fun gh2 ix wx=>∃(i:Nat) (es:List El),ix = .int .i64 i∧i+gh2=R.length∧Hid (RowQ wx wb.heap.size es ((colL (valsT R) j).take i))∧Hid (es.length=R.length)∧Hid (Below wb.heap.size wb wx))
   case atStart=>exact⟨0,_,rfl,by omega,HO,hid (by simp),hid ((Below.refl _ _).alloc (Nat.le_refl _) _)⟩
   case round=>
    clear HO
    obtain⟨i,es,rfl,hi,hO,hEl,hWx⟩:=hrel
    cases gk with
    | succ gh2=>
     have hil:i<R.length:=by omega
     have hil':(i:Int)<(R.length:Int):=by omega
     obtain⟨r,hr⟩:∃r,R[i]? =some r:=⟨R[i],List.getElem?_eq_getElem hil⟩
     have hMx:=HM.out.below (hW.out.trans (hWx.out.mono hww))
     have cc1:=hMx.cellRow hr
     have hgl:=hMx.own.lt
     obtain⟨⟨esr,hrq⟩,hrl,hrc1,hrc2⟩:=hMx.row _ (List.mem_of_getElem? hr)
     obtain⟨er,R1,rn1,rc1,R2,rn2,rc2,zz0,her,hrt,d0,d1,d2,zz1,zz2,zz3⟩:=hrq.at_ (j:=j) (by rw[hrl];exact hlt)
     clear zz0 zz1 zz2 zz3
     obtain⟨er0,era,erb⟩:=er
     have her':era = .slice R1 rn1 rc1∧erb = .slice R2 rn2 rc2:=by simpa using her
     obtain⟨rfl,rfl⟩:=her'
     clear her
     unfold elV at hrt
     dsimp only at d0 hrt
     have hrbl:=hrq.own.lt
     have hql:((colL (valsT R) j).take i).length=i:=by rw[List.length_take,HCl.out];omega
     have hies:i<es.length:=by rw[hEl.out];exact hil
     obtain⟨x0,x1,x2,k0,k1,k2,f0,f1,f2⟩:=hO.out.raw hies
     have hbl:=hO.out.own.lt
     have HV:Hid ((colL (valsT R) j).take (i+1)=(colL (valsT R) j).take i++[r.2.2[j]?.getD 0]):=hid (by
      rw[List.take_add_one]
      unfold colL valsT
      rw[List.getElem?_map,List.getElem?_map,hr];rfl)
     have HO2:Hid (RowQ (((wr.setCell ⟨wb.heap.size,i*3,none⟩ (.bool er0)).setCell ⟨wb.heap.size,i*3+1,none⟩ (.slice R1 rn1 rc1)).setCell ⟨wb.heap.size,i*3+2,none⟩ (.slice R2 rn2 rc2)) wb.heap.size (es.set i (er0,.slice R1 rn1 rc1,.slice R2 rn2 rc2)) ((colL (valsT R) j).take (i+1))):=hid (by
      have:=hO.out.push (e:=(er0,.slice R1 rn1 rc1,.slice R2 rn2 rc2)) (q:=r.2.2[j]?.getD 0) (by rw[hql];exact hies) hrt
      rw[hql,←HV.out] at this
      exact this)
     have HW2:=hid (((hWx.out.setCell (p:=⟨wb.heap.size,i*3,none⟩) (Nat.le_refl _) (.bool er0)).setCell (p:=⟨wb.heap.size,i*3+1,none⟩) (Nat.le_refl _) (.slice R1 rn1 rc1)).setCell (p:=⟨wb.heap.size,i*3+2,none⟩) (Nat.le_refl _) (.slice R2 rn2 rc2))
     have HL2:Hid ((es.set i (er0,.slice R1 rn1 rc1,.slice R2 rn2 rc2)).length=R.length):=hid (by rw[List.length_set];exact hEl.out)
     generalize es.set i (er0,.slice R1 rn1 rc1,.slice R2 rn2 rc2)=es2 at *
     have Hi:=hid hi
     obtain⟨rb,rc,rl⟩:=r
     unfold rowW at cc1
     dsimp only at cc1 hrl hrc1 hrc2 hrbl d0 d1 d2
     clear hr hMx hrq hrt hO hEl hWx HV hi hql hies hrl
     go_wp2
     go_roundg gh2
     case rel=>exact⟨i+1,es2,by go_num,by have:=Hi.out;omega,HO2,HL2,HW2⟩
     case measure=>omega
    | zero=>
     have hin2:¬((i:Int)<(R.length:Int)):=by omega
     have HO':Hid (RowQ wr wb.heap.size es (colL (valsT R) j)):=hid (by
      have:=hO.out
      rwa [show i=(colL (valsT R) j).length by rw[HCl.out];omega,List.take_length] at this)
     have HW1:=hid (hW.out.trans (hWx.out.mono hww))
     have HE0:=hid (hE.out.below hWx.out)
     have HS0:=hid (hS.out.below hWx.out)
     have hE1:=HE0.out.1
     rw[hBl] at hE1
     have HE1:=hid hE1
     have HBL:=hid hBl
     have hww1:=HW1.out.size
     have halr:Hid (∀o:Obj,Below wr.heap.size wr (wr.alloc o)):=hid (fun o=>(Below.refl _ _).alloc (Nat.le_refl _) _)
     have HBo:Hid (∀r∈B,w.heap.size≤r.1∧r.1<wb.heap.size∧(Value.slice A5 j c5).ownBlock≠some r.1):=hid (fun r hr=>by obtain⟨cs,h1,h2,h3⟩:=hBo.out r hr;exact⟨h2,h1.lt,h3⟩)
     have HSl:Hid (∀k,(Value.slice A5 j c5).ownBlock=some k→k<wb.heap.size):=hid (fun k hk=>(hS.out.lt k hk).2)
     have hwbl:wb.heap.size<wr.heap.size:=HO'.out.own.lt
     clear hO hEl hi hE hS hWx hE1 hBl hBo hal
     go_wp2_with (at_builtin;(refine wpList_append_all _ (o:=⟨some 36,_,_,_,_,_⟩) rfl _ _ 163 rfl w.heap.size 167 i0 (.slice none 0 0) 1 24 Tryz.underlying163 hi0 hz0 hz1 hz2 rfl (by decide) _ _ _ rfl (HE1.out.alloc _) ⟨wr.heap.size,0,none⟩ 1 1 [.slice (some ⟨wb.heap.size,0,none⟩) R.length R.length] rfl rfl (cell_one_new _ _ _) (fun x hx=>by simp at hx;subst hx;rfl) (by unfold maxLen;omega) (by omega) (by simp;omega) (by decide) NoU (cinBelow HE0.out.2.1 HE1.out (halr.out _)) (news_sl _ _ _) zero_sl ?_;intro v7 w7 hown7 hgrow7 hall7))
     have hg7:(wr.alloc (.cells #[.slice (some ⟨wb.heap.size,0,none⟩) R.length R.length] 167)).grownBy w7 (Value.slice A4 j c4).ownBlock:=hgrow7
     have HE7:Hid (EqsQ w7 w.heap.size v7 (B++[(wb.heap.size,R.length,colL (valsT R) j)])):=hid ((HE0.out.below (halr.out _)).snoc (r:=(wb.heap.size,R.length,colL (valsT R) j)) hg7 (by rw[HBL.out];dsimp only;rw[HCl.out];exact hown7) hall7 ⟨es,HO'.out.below (halr.out _)⟩ (by dsimp only;rw[HCl.out];exact Nat.le_refl _))
     have HS7:=hid ((HS0.out.below (halr.out (.cells #[.slice (some ⟨wb.heap.size,0,none⟩) R.length R.length] 167))).grown hg7 (oBelow HE1.out (halr.out _)) (cinBelow HE0.out.2.1 HE1.out (halr.out _)) (by decide))
     have HW7:Hid (Below w.heap.size w w7):=hid (Below.grown (HW1.out.alloc hww1 _) hg7 (by simp;omega) (fun k hk=>(HE1.out.lt k hk).1))
     have HBo7:Hid (∀r∈B++[((wb.heap.size,R.length,colL (valsT R) j):RowR)],w.heap.size≤r.1∧r.1≤wb.heap.size∧(Value.slice A5 j c5).ownBlock≠some r.1):=hid (fun r hr=>by
      rcases List.mem_append.1 hr with hr | hr
      ·have:=HBo.out r hr;exact⟨this.1,Nat.le_of_lt this.2.1,this.2.2⟩
      ·obtain rfl:=List.mem_singleton.1 hr
       exact⟨hww,Nat.le_refl _,fun e=>by have:=HSl.out _ e;dsimp only at this;omega⟩)
     have HBv7:Hid ((B++[((wb.heap.size,R.length,colL (valsT R) j):RowR)]).map (·.2.2)=(List.range (j+1)).map (colL (valsT R))):=hid (by rw[List.map_append,hBv.out,List.range_succ,List.map_append];rfl)
     have HBl7:Hid ((B++[((wb.heap.size,R.length,colL (valsT R) j):RowR)]).length=j+1):=hid (by rw[List.length_append,HBL.out];rfl)
     have hw7b:wb.heap.size<w7.heap.size:=by have:=hg7.size;simp at this;omega
     obtain⟨A7,c7,hv7,_,_⟩:=oForm hown7
     subst hv7
     clear hown7 hgrow7 hg7 hall7 HE0 HS0 HW1 HE1 HO' HBo hBv hW
     generalize B++[((wb.heap.size,R.length,colL (valsT R) j):RowR)]=B7 at *
     go_wp2_with fail
     refine(of0R _).mono ?_
     rintro e w8 ⟨ov,rfl,hov,hB8⟩
     obtain⟨os,O1,on1,oc1,O2,on2,oc2,rfl⟩:=hov.shape
     have HE8:=hid (HE7.out.below hB8)
     have HW8:=hid (HW7.out.trans (hB8.mono HW7.out.size))
     have hw8b:wb.heap.size<w8.heap.size:=Nat.lt_of_lt_of_le hw7b hB8.size
     have hS8:=HS7.out.below hB8
     obtain⟨esS,ho8,hl8,ha8,hr8⟩:=hS8
     have ho8':=ho8
     rw[List.length_replicate] at ho8'
     have Ho8:=hid ho8'
     have Ho8l:=hid ho8
     have Hl8:=hid hl8
     have Ha8:=hid ha8
     have Hr8:=hid hr8
     have Hov:=hid hov
     have hal8:Hid (∀o:Obj,Below w8.heap.size w8 (w8.alloc o)):=hid (fun o=>(Below.refl _ _).alloc (Nat.le_refl _) _)
     have hw8:=HW8.out.size
     clear HE7 HS7 HW7 hB8 ho8 ho8' hl8 ha8 hr8 hov
     go_wp2_with (at_builtin;(refine wpList_append_all_at _ (o:=⟨some 40,_,_,_,_,_⟩) rfl _ _ 167 rfl w.heap.size 122 j0 ratZero 3 56 Tryz.underlying167 hj0 hw0 hw1 hw2 rfl (by decide) _ _ _ rfl (Ho8.out.alloc _) ⟨w8.heap.size,0,none⟩ 1 1 [.bool os,.slice O1 on1 oc1,.slice O2 on2 oc2] rfl rfl (cell_three_new _ _ _ _ _) (one_el _ _ _ _ _ _ _) (by unfold maxLen;omega) (by omega) (by simp;omega) (by decide) NoU (cinBelow Ha8.out Ho8.out (hal8.out _)) (news_el _ _ _ _ _ _ _) zero_rat ?_;intro v9 w9 hown9 hgrow9 hall9 hat9))
     have hg9:(w8.alloc (.cells #[.bool os,.slice O1 on1 oc1,.slice O2 on2 oc2] 122)).grownBy w9 (Value.slice A5 j c5).ownBlock:=hgrow9
     have hat9':v9.ownBlock=(Value.slice A5 j c5).ownBlock∨v9.ownBlock=some (w8.heap.size+1):=hat9.imp id (fun h=>h.trans (congrArg some (Array.size_push _)))
     have HS9:Hid (PivQ w9 w.heap.size v9 (List.replicate (j+1) 0)):=hid (by
      rw[List.replicate_succ']
      exact PivQ.snoc (e:=(os,.slice O1 on1 oc1,.slice O2 on2 oc2)) (oBelow Ho8l.out (hal8.out _)) Hl8.out (cinBelow Ha8.out Ho8.out (hal8.out _)) (fun i e q h1 h2=>(Hr8.out i e q h1 h2).below (hal8.out _)) (Hov.out.below (hal8.out _)) (by rw[List.length_replicate];exact hown9) hall9 hg9)
     have HE9:Hid (EqsQ w9 w.heap.size (Value.slice A7 (j+1) c7) B7):=hid ((HE8.out.below (hal8.out _)).grown hg9 (oBelow Ho8.out (hal8.out _)) (cinBelow Ha8.out Ho8.out (hal8.out _)) (fun r hr=>(HBo7.out r hr).2.2))
     have HW9:Hid (Below w.heap.size w w9):=hid (Below.grown (HW8.out.alloc hw8 _) hg9 (by simp;omega) (fun k hk=>(Ho8.out.lt k hk).1))
     have HBo9:Hid (∀r∈B7,∃cs,Own w9 r.1 122 cs∧w.heap.size≤r.1∧v9.ownBlock≠some r.1):=hid (fun r hr=>by
      obtain⟨es',he⟩:=(HE9.out.2.2 r hr).1
      refine⟨_,he.own,(HBo7.out r hr).1,fun e=> ?_⟩
      have h7:=HBo7.out r hr
      rcases hat9' with h | h
      ·exact h7.2.2 (h ▸ e)
      ·rw[h] at e
       have:w8.heap.size+1=r.1:=Option.some.inj e
       omega)
     clear hown9 hgrow9 hg9 hall9 hat9 hat9' HE8 HW8 Ho8 Ho8l Hl8 Ha8 Hr8 Hov
     go_wp2
     go_roundg gh
     case rel=>exact⟨j+1,B7,by go_num,by have:=Hj.out;omega,HBl7.out,HBv7,HBo9,HE9,HS9,HW9⟩
     case measure=>omega
attribute [local go_sem ↓] Go.wp_at_zero Go.wp_at_succ
theorem EqsQ.at_ {w:World} {base n c:Nat} {A:Option Addr} {B:List RowR} (h:EqsQ w base (.slice A n c) B) {j:Nat} {r:RowR} (hr:B[j]? =some r):
  ∃g,A=some ⟨g,0,none⟩∧base≤g∧g<w.heap.size∧w.cell? ⟨g,j,none⟩=some (.slice (some ⟨r.1,0,none⟩) r.2.2.length r.2.1):=by
 obtain⟨hj,hrj⟩:=List.getElem?_eq_some_iff.1 hr
 rcases h.1.2 with ⟨hA,hn⟩ | ⟨g,cap,cur,hA,hb,hg,_,_,_,htake⟩
 ·omega
 ·injection hA with hA1 hA2 hA3
  subst hA1
  refine⟨g,rfl,hb,(Array.getElem?_eq_some_iff.1 hg).1,?_⟩
  rw[cell_of_row w g j cur _ (0,0) hg]
  have hu:(B.map fun r=>Value.slice (some ⟨r.1,0,none⟩) r.2.2.length r.2.1)[j]? =some (.slice (some ⟨r.1,0,none⟩) r.2.2.length r.2.1):=by rw[List.getElem?_map,hr];rfl
  rw[←htake,List.getElem?_take] at hu
  split at hu
  ·simpa using hu
  ·cases hu
theorem EqsQ.form {w:World} {base:Nat} {v:Value} {B:List RowR} (h:EqsQ w base v B):∃A c,v = .slice A B.length c∧B.length≤c∧c≤maxLen:=oForm h.1
def refE (n:Nat) (V:List (List Rat)) (b:List Rat):List (List Rat):=(List.range n).map (colL V)++[b]
def refS (n:Nat):List Rat:=List.replicate n 0++[1]
def refD (n:Nat) (V:List (List Rat)) (b y:List Rat) (j:Nat):Rat:=prodTo ((refE n V b)[j]?.getD []) y V.length-(refS n)[j]?.getD 0
def Refutes (n:Nat) (V:List (List Rat)) (b y:List Rat):Prop:=∀j,j<n+1→refD n V b y j=0
def RefOk (n:Nat) (V:List (List Rat)) (b y:List Rat):Prop:=∀j,j<n+1→ProdOk ((refE n V b)[j]?.getD []) y∧FitP (prodTo ((refE n V b)[j]?.getD []) y V.length) ((refS n)[j]?.getD 0)
def refPost (M:List (List Txt)) (b y:List Txt) (w:World) (e:Ending) (w':World):Prop:=
 Below w.heap.size w w'∧((eqErr M b=0∧sideErr y M.length=0∧((Refutes (widM M) (M.map rvals) (rvals b) (rvals y)∧e = .returned (.int .i64 0))∨(¬Refutes (widM M) (M.map rvals) (rvals b) (rvals y)∧e = .returned (.int .i64 19)))) ∨
  (eqErr M b=0∧sideErr y M.length≠0∧e = .returned (.int .i64 (sideErr y M.length)))∨(eqErr M b≠0∧e = .returned (.int .i64 (eqErr M b))))
theorem refE_row {n:Nat} {V:List (List Rat)} {b:List Rat} (hb:b.length=V.length):∀L∈refE n V b,L.length=V.length:=by
 intro L hL
 rcases List.mem_append.1 hL with h | h
 ·obtain⟨j,_,rfl⟩:=List.mem_map.1 h
  simp[colL]
 ·rw[List.mem_singleton.1 h];exact hb
theorem CheckRefute_c (v u t:Value) (M:List (List Txt)) (b y:List Txt) (w:World) (hv:TblT w v M) (hu:SlW w u (scells b)) (ht:SlW w t (scells y)) (hT:∀r∈M,∀l∈r,TxtOk l) (hTb:∀l∈b,TxtOk l) (hTy:∀l∈y,TxtOk l) (hG:Glob w)
  (hok:eqErr M b=0→sideErr y M.length=0→RefOk (widM M) (M.map rvals) (rvals b) (rvals y)):
  Calls Tryz.prog 78 #[v,u,t] w (refPost M b y w):=by
 have RE:=hid (readEquations_c v u M b w hv hu hT hTb hG)
 have RS:=hid (fun (hl:M.length≤1000000) W (hw:Below w.heap.size w W)=>readSide_c t y M.length W (ht.below hw) hl hTy (hG.below hw))
 have HOK:=hid hok
 obtain⟨A,c,rfl,_,_⟩:=hv.form
 obtain⟨A2,c2,rfl,_,_⟩:=hu.form
 obtain⟨A3,c3,rfl,_,_⟩:=ht.form
 simp only[scells_length] at RE RS ⊢
 clear hv hu ht hT hTb hTy hG hok
 go_enter Tryz.func78,Tryz.ntmps78
 go_wp2_with fail
 refine RE.out.mono ?_
 clear RE
 rintro e w1 ⟨hB1,⟨hE,hM,hbl,g,R,gb,eb,rfl,hg,hnew,hmx,hvals,hgb,hO⟩ | ⟨hE,v1,rfl⟩⟩
 ·obtain⟨hm1,hn1⟩:=matErr_ok hM
  have hRl:R.length=M.length:=by rw[←vals_len R,hvals];simp
  have HB1:=hid hB1
  have HE:=hid hE
  have HM:=hid hM
  have HMX:=hid hmx
  have HO:=hid hO
  have Hvals:=hid hvals
  have hrb:(rvals b).length=M.length:=by simp[rvals];exact hbl
  clear hB1 hE hM hmx hO hvals hnew
  go_wp2_with fail
  refine(RS.out (by omega) _ HB1.out).mono ?_
  clear RS
  rintro e w2 ⟨hB2,⟨hS,hyl,gy,ey,rfl,hgy,hOy⟩ | ⟨hS,rfl⟩⟩
  ·have HROK:=hid (HOK.out HE.out hS)
   have HS:=hid hS
   have hal2:=HB1.out.trans (hB2.mono HB1.out.size)
   have HB2:=hid hal2
   have HY:=hid hOy
   have hry:(rvals y).length=M.length:=by simp[rvals];exact hyl
   have CD:=hid (conditions_c g M.length (widM M) gb M.length R eb (rvals b) w2 (HMX.out.below hB2) (by omega) (by omega) (fun h=>by
    have:M=[]:=List.length_eq_zero_iff.1 (by rw[←hRl,h];rfl)
    rw[this];rfl) (HO.out.below hB2) (by omega) (by omega))
   rw[hRl,Hvals.out] at CD
   clear hS hB2 hal2 hOy HOK HMX HO Hvals hRl
   go_wp2_with fail
   refine CD.out.mono ?_
   clear CD
   rintro e w3 ⟨ev,B,sv,rfl,hBv,hEq,hSd,hB3⟩
   obtain⟨A4,c4,rfl,hc4,hc4'⟩:=hEq.form
   obtain⟨A5,c5,hsv,hc5,hc5'⟩:=hSd.form
   have hBl:B.length=widM M+1:=by
    have:=congrArg List.length hBv
    simpa using this
   have hS5:(List.replicate (widM M) (0:Rat)++[1]).length=widM M+1:=by simp
   rw[hS5] at hsv hc5
   subst hsv
   rw[hBl]
   rw[hBl] at hEq
   have HBl:=hid hBl
   have HB3:=hid (HB2.out.trans (hB3.mono HB2.out.size))
   have HEq:=hid hEq
   have HSd:=hid hSd
   have HBv:=hid hBv
   have HY3:=hid (HY.out.below hB3)
   have hgyl:gy<w3.heap.size:=HY3.out.own.lt
   have hrow:∀r∈B,r.2.2.length=M.length:=by
    intro r hr
    have h1:r.2.2∈refE (widM M) (M.map rvals) (rvals b):=by unfold refE;rw[←hBv];exact List.mem_map.2 ⟨r,hr,rfl⟩
    have:=refE_row (n:=widM M) (V:=M.map rvals) (b:=rvals b) (by simpa using hrb) _ h1
    simpa using this
   have HRow:=hid hrow
   generalize hwd:widM M=n at *
   have HWD:=hid hwd
   clear hB3 hEq hSd hBv HB2 HY hS5 hrow hBl hwd
   go_wp2
   go_loopg [6,43] (n+1) (fun gh rr ix wr=>∃i:Nat,rr = .int .i64 0∧ix = .int .i64 i∧i+gh=n+1∧Hid (∀j,j<i→refD n (M.map rvals) (rvals b) (rvals y) j=0)∧Hid (Below w3.heap.size w3 wr))
   case atStart=>exact⟨0,rfl,rfl,by omega,hid (by omega),hid (Below.refl _ _)⟩
   case round=>
    obtain⟨i,rfl,rfl,hi,hZ,hW⟩:=hrel
    cases gk with
    | zero=>
     have hin:¬((i:Int)<((n+1:Nat):Int)):=by omega
     have HZ:Hid (Refutes n (M.map rvals) (rvals b) (rvals y)):=hid (fun j hj=>hZ.out j (by omega))
     have HWe:=hid (HB3.out.trans (hW.out.mono HB3.out.size))
     clear hZ hW
     go_wp2
     go_ret
     exact⟨HWe.out,.inl ⟨HE.out,HS.out,.inl ⟨by rw[HWD.out];exact HZ.out,rfl⟩⟩⟩
    | succ gh=>
     have hlt:i<n+1:=by omega
     have hlt':(i:Int)<((n+1:Nat):Int):=by omega
     obtain⟨r,hr⟩:∃r,B[i]? =some r:=⟨B[i]'(by rw[HBl.out];exact hlt),List.getElem?_eq_getElem (by rw[HBl.out];exact hlt)⟩
     obtain⟨g4,rfl,_,hg4,hcr⟩:=HEq.out.at_ hr
     have hi5:i<(List.replicate n (0:Rat)++[1]).length:=by simp;omega
     obtain⟨g5,s5,Z1,zn1,zc1,Z2,zn2,zc2,rfl,_,hg5,hrs,p0,p1,p2⟩:=HSd.out.at_ hi5
     have hrm:r∈B:=List.mem_of_getElem? hr
     have hrl:r.2.2.length=M.length:=HRow.out r hrm
     have hrE:(refE n (M.map rvals) (rvals b))[i]?.getD []=r.2.2:=by
      have:(refE n (M.map rvals) (rvals b))[i]? =some r.2.2:=by unfold refE;rw[←HBv.out,List.getElem?_map,hr];rfl
      rw[this];rfl
     obtain⟨hpo,hfp⟩:=HROK.out i hlt
     have hDv:refD n (M.map rvals) (rvals b) (rvals y) i=prodTo r.2.2 (rvals y) M.length-(refS n)[i]?.getD 0:=by unfold refD;rw[hrE];simp
     rw[hrE] at hpo hfp
     simp only[List.length_map] at hfp
     change Rt _ _ ((refS n)[i]?.getD 0) at hrs
     obtain⟨⟨er,hOr⟩,hcap⟩:=(HEq.out.2.2 r hrm)
     have c0:=(hW.out.cell (p:=⟨g4,i,none⟩) hg4).trans hcr
     have q0:=(hW.out.cell (p:=⟨g5,i*3,none⟩) hg5).trans p0
     have q1:=(hW.out.cell (p:=⟨g5,i*3+1,none⟩) hg5).trans p1
     have q2:=(hW.out.cell (p:=⟨g5,i*3+2,none⟩) hg5).trans p2
     have hg5r:g5<wr.heap.size:=Nat.lt_of_lt_of_le hg5 hW.out.size
     have PD:=hid (fun (W:World) (hb:Below wr.heap.size wr W)=>productQ_c W r.1 gy M.length r.2.1 M.length er ey r.2.2 (rvals y) ((hOr.below hW.out).below hb) ((HY3.out.below hW.out).below hb) hrl.symm (by omega) (by omega) hpo)
     have MI:=hid (fun (W:World) (z:Value) (hb:Below wr.heap.size wr W) (hz:Rt W z (prodTo r.2.2 (rvals y) M.length))=>ratMinus_c z (.agg #[.bool s5,.slice Z1 zn1 zc1,.slice Z2 zn2 zc2]) _ _ W hz ((hrs.below hW.out).below hb) hfp)
     have KS:Hid (∀z,Below wr.heap.size wr z→z.cell? ⟨g5,i*3,none⟩=some (.bool s5)∧z.cell? ⟨g5,i*3+1,none⟩=some (.slice Z1 zn1 zc1)∧z.cell? ⟨g5,i*3+2,none⟩=some (.slice Z2 zn2 zc2)∧Below wr.heap.size wr z):=hid (fun z hb=>
      ⟨(hb.cell (p:=⟨g5,i*3,none⟩) hg5r).trans q0,(hb.cell (p:=⟨g5,i*3+1,none⟩) hg5r).trans q1,(hb.cell (p:=⟨g5,i*3+2,none⟩) hg5r).trans q2,hb⟩)
     have KT:=hid (fun (x x':World) (hb:Below x.heap.size x x') (h5:Below wr.heap.size wr x)=>KS.out x' (h5.trans (hb.mono h5.size)))
     rw[←hDv] at MI
     have HWr:=hid (hW.out.trans (Below.refl _ _))
     clear p0 p1 p2 hrs hOr hpo hfp hW hDv hrE hi5 hcr hg4 hg5
     generalize hdd:refD n (M.map rvals) (rvals b) (rvals y) i=dd at *
     have HDD:=hid hdd
     clear hdd
     go_wp2
     go_region_held3 (fun z=>z.cell? ⟨g5,i*3,none⟩=some (.bool s5)∧z.cell? ⟨g5,i*3+1,none⟩=some (.slice Z1 zn1 zc1)∧z.cell? ⟨g5,i*3+2,none⟩=some (.slice Z2 zn2 zc2)∧Below wr.heap.size wr z)
      (first | exact KS.out _ (Below.refl _ _).drew | exact KT.out _ _ (by assumption) (by assumption))
      (first
       | (go_at_call 158;go_split_ands;refine(PD.out _ (by assumption)).mono ?_;rintro e4 w4 ⟨pv,rfl,hpv,hB4⟩)
       | (go_at_call 109;go_split_ands;refine(MI.out _ pv (by assumption) hpv).mono ?_;rintro e5 w5 ⟨mv,rfl,hmv,hB5⟩)
       | (go_at_call 114;go_split_ands;refine(sign_c mv dd _ hmv).mono ?_;rintro e6 w6 ⟨rfl,hB6⟩))
     have hB6':Below wr.heap.size wr w6:=by go_split_ands;assumption
     have HB6:=hid (HWr.out.trans (hB6'.mono HWr.out.size))
     clear hpv hB4 hmv hB5 hB6 hB6' PD MI KS KT c0 q0 q1 q2 hcap
     by_cases h0:dd=0
     ·have hsg:ratSign dd=0:=by rw[h0];rfl
      have HZ2:Hid (∀j,j<i+1→refD n (M.map rvals) (rvals b) (rvals y) j=0):=hid (fun j hj=>by
       rcases Nat.lt_or_ge j i with h | h
       ·exact hZ.out j h
       ·have:j=i:=by omega
        subst this;rw[HDD.out];exact h0)
      rw[hsg]
      clear hZ h0 hsg HDD
      go_wp2
      go_roundg gh
      case rel=>exact⟨i+1,rfl,by go_num,by omega,HZ2,HB6⟩
      case measure=>omega
     ·have hsg:(ratSign dd != 0)=true:=by
       have h1:dd.num≠0:=fun h=>h0 (Rat.num_eq_zero.1 h)
       unfold ratSign
       rw[if_neg h1]
       split <;> rfl
      have HN:Hid (¬Refutes n (M.map rvals) (rvals b) (rvals y)):=hid (fun h=>h0 (by rw[←HDD.out];exact h i hlt))
      generalize ratSign dd=sg at *
      clear hZ h0 HDD
      have HBf:=hid (HB3.out.trans (HB6.out.mono HB3.out.size))
      go_wp2
      go_ret
      exact⟨HBf.out,.inl ⟨HE.out,HS.out,.inr ⟨by rw[HWD.out];exact HN.out,rfl⟩⟩⟩
  ·have HS:=hid hS
   have HB2:=hid (HB1.out.trans (hB2.mono HB1.out.size))
   have hne:(sideErr y M.length != 0)=true:=by simpa using hS
   clear hS hB2 HOK HMX HO Hvals
   generalize hec:sideErr y M.length=ec at *
   have HEC:=hid hec
   clear hec
   go_wp2
   go_ret
   exact⟨HB2.out,.inr (.inl ⟨HE.out,by rw[HEC.out];exact HS.out,by rw[HEC.out];rfl⟩)⟩
 ·have HX:=hid hE
  have hne:(eqErr M b != 0)=true:=by simpa using hE
  clear HOK hE RS
  generalize hec:eqErr M b=ec at *
  have HEC:=hid hec
  clear hec
  go_wp2
  go_ret
  exact⟨hB1,.inr (.inr ⟨by rw[HEC.out];exact HX.out,by rw[HEC.out];rfl⟩)⟩
end Go.Proofs.YtneafcdfnhnpnaaGreatDoor
namespace Go.Proofs.YtneafcdfnhnpnaaGreatDoor
open Go.RowKit
def factRest (x:Nat):Nat→Nat
 | 0=>x
 | k+1=>factRest x k/(k+1)
def factDig (x n:Nat):Nat→List Int
 | 0=>List.replicate n 0
 | k+1=>(factDig x n k).set (n-1-k) ((factRest x k%(k+1):Nat):Int)
theorem factDig_length (x n k:Nat):(factDig x n k).length=n:=by
 induction k with
 | zero=>simp[factDig]
 | succ k ih=>simp[factDig,ih]
theorem factRest_le (x k:Nat):factRest x k≤x:=by
 induction k with
 | zero=>exact Nat.le_refl _
 | succ k ih=>exact Nat.le_trans (Nat.div_le_self _ _) ih
theorem Nt.putI {w:World} {v:Value} {x g i:Nat} {t:TypeId} {L:List Int} (h:Nt w v x) (hO:Own w g t (icells L)) (u:Value):Nt (w.setCell ⟨g,i,none⟩ u) v x:=by
 obtain⟨ws,h1,h2,h3,A,n,c,hv,h4,h5,h6,h7⟩:=h
 refine⟨ws,h1,h2,h3,A,n,c,hv,h4,h5,h6,fun hn=> ?_⟩
 obtain⟨b,off,hA,hb,hcell⟩:=h7 hn
 refine⟨b,off,hA,by simpa using hb,fun j u hu=> ?_⟩
 have hj:=hcell j u hu
 have hne:b≠g:=by
  rintro rfl
  rw[hO.cell] at hj
  obtain⟨z,_,hz⟩:=List.mem_map.1 (List.mem_of_getElem? hj)
  obtain⟨y,_,hy⟩:=List.mem_map.1 (List.mem_of_getElem? hu)
  rw[←hz] at hy
  cases hy
 rw[World.cell?_setCell_other _ _ _ _ (by intro e;injection e with e1;exact hne e1.symm)]
 exact hj
def factPost (x n:Nat) (w:World) (e:Ending) (w':World):Prop:=
 ∃u v,e = .returned (.tuple #[u,v])∧Sl w' 1 u (icells (factDig x n n))∧Nt w' v (factRest x n)∧Below w.heap.size w w'
theorem factorialDigits_c (v:Value) (x n:Nat) (w:World) (h:Nt w v x) (hf:Fits x) (hn:n≤256):
  Calls Tryz.prog 140 #[v,.int .i64 n] w (factPost x n w):=by
 have hmk:=fun W=>make_ints W n (by omega)
 have HF:=Lib.hid (fun k=>Fits.le hf (factRest_le x k))
 have h0:Nt (w.alloc (.cells (icells (List.replicate n 0)).toArray 3)) v (factRest x 0):=h.below ((Below.refl _ _).alloc (Nat.le_refl _) _)
 have hO0:=Own.make w 3 (icells (List.replicate n 0))
 have hB0:=(Below.refl w.heap.size w).alloc (Nat.le_refl _) (.cells (icells (List.replicate n 0)).toArray 3)
 have H0:=Lib.hid h0
 clear h hf h0
 go_enter Tryz.func140,Tryz.ntmps140
 go_wp2_with fail
 go_loopg [0,6,7] n (fun g u i _ wr=>∃(k:Nat),k+g=n∧i = .int .i64 ((n:Int)-1-k)∧Hid (Nt wr u (factRest x k))∧Own wr w.heap.size 3 (icells (factDig x n k))∧Below w.heap.size w wr)
 case atStart=>exact⟨0,by omega,by go_num,H0,hO0,hB0⟩
 case round=>
  clear hO0 hB0 H0
  obtain⟨k,hk,rfl,hN,hO,hB⟩:=hrel
  cases gk with
  | zero=>
   have hkn:k=n:=by omega
   have hsl:=Lib.hid (hO.sl n (by rw[icells_length,factDig_length]) (by omega))
   rw[hkn] at hsl hN
   have hi:((n:Int)-1-(n:Int)) = -1:=by omega
   clear hk hO
   subst hkn
   go_wp2
   go_ret2
   exact⟨_,_,rfl,hsl.out,hN.out,hB⟩
  | succ g=>
   obtain⟨i,hi⟩:∃i:Nat,n=i+1+k:=⟨n-1-k,by omega⟩
   have hi2:((n:Int)-1-(k:Int))=i:=by omega
   rw[hi2]
   have hin:n-1-k=i:=by omega
   have hD:=Lib.hid (show factDig x n (k+1)=(factDig x n k).set (n-1-k) ((factRest x k%(k+1):Nat):Int) from rfl)
   rw[hin] at hD
   have hsub:(n:Int)-i=(k:Int)+1:=by omega
   have hck:=(hO.cell i).trans (icells_at (factDig x n k) i (by rw[factDig_length];omega))
   have hfr:=hO.free i
   have hmod:factRest x k%(k+1)<256:=Nat.lt_of_lt_of_le (Nat.mod_lt _ (by omega)) (by omega)
   have hm2:factRest x k%(k+1)<18446744073709551616:=by omega
   have hil:i<n:=by omega
   have hlo:i<256:=by omega
   have hk2:k<256:=by omega
   have hck':wr.cell? ⟨w.heap.size,i,none⟩=some (.int .i64 ((factDig x n k)[i]?.getD 0)):=hck
   have DW:=dividedByWord_c u0 _ (k+1) wr hN.out (by omega) (by unfold WB;omega) (HF.out k)
   rw[Int.natCast_succ] at DW
   have DW:=Lib.hid DW
   have Hk:Hid (k+(g+1)=n):=Lib.hid hk
   generalize hz:(factDig x n k)[i]?.getD 0=z at *
   clear hi hi2 hin hk hck' hz
   generalize hm:factRest x k%(k+1)=d at *
   clear hm
   go_wp2_with fail
   refine DW.out.mono ?_
   rintro e w2 ⟨u,rfl,hNu,hB2⟩
   have hO2:=hO.below hB2 hO.lt
   have hc2:=(hB2.cell (p:=⟨w.heap.size,i,none⟩) hO.lt).trans hck
   have hf2:=(hB2.frozen (p:=⟨w.heap.size,i,none⟩) hO.lt).trans hfr
   have hB':=hB.trans (hB2.mono hB.size)
   have HN2:Hid (Nt w2 u (factRest x (k+1))):=Lib.hid hNu
   clear hO hB hB2 hck hfr hN hNu
   go_wp2
   go_roundg g
   case rel=>exact⟨k+1,by have:=Hk.out;omega,by congr 1;omega,Lib.hid (HN2.out.putI hO2 _),by rw[hD.out,←icells_set];exact hO2.put _ _,hB'.setCell (by simp) _⟩
   case measure=>omega
def pickTo (pl:List Int):Nat→List Int×List Int
 | 0=>([],(List.range pl.length).map fun (i:Nat)=>(i:Int))
 | k+1=>((pickTo pl k).1++[(pickTo pl k).2[(pl[k]?.getD 0).toNat]?.getD 0],(pickTo pl k).2.eraseIdx (pl[k]?.getD 0).toNat)
def PlOk (pl:List Int):Prop:=∀k,k<pl.length→0≤pl[k]?.getD 0∧pl[k]?.getD 0<((pl.length-k:Nat):Int)
theorem pickTo_len {pl:List Int} (h:PlOk pl) (k:Nat) (hk:k≤pl.length):(pickTo pl k).1.length=k∧(pickTo pl k).2.length=pl.length-k:=by
 induction k with
 | zero=>simp[pickTo]
 | succ k ih=>
  have ih:=ih (by omega)
  have hp:=h k (by omega)
  unfold pickTo
  refine⟨by simp[ih.1],?_⟩
  rw[List.length_eraseIdx_of_lt (by rw[ih.2];omega),ih.2];omega
def setsL (cs:List Value):Nat→List Value→List Value
 | _,[]=>cs
 | o,v::r=>setsL (cs.set o v) (o+1) r
theorem Own.puts {g:Nat} {t:TypeId} (vs:List Value):∀ {w:World} {cs:List Value} (o:Nat),Own w g t cs→Own (w.setCells g o vs) g t (setsL cs o vs):=by
 induction vs with
 | nil=>exact fun o h=>h
 | cons v r ih=>exact fun o h=>ih (o+1) (h.put o v)
theorem setsL_eq (vs:List Value):∀(cs:List Value) (o:Nat),o+vs.length≤cs.length→setsL cs o vs=cs.take o++(vs++cs.drop (o+vs.length)):=by
 induction vs with
 | nil=>intro cs o h;simp[setsL]
 | cons v r ih=>
  intro cs o h
  simp only[List.length_cons] at h ⊢
  unfold setsL
  rw[ih _ _ (by rw[List.length_set];omega)]
  have:=list_seg_step cs o v r (by omega)
  rw[List.append_assoc,List.append_assoc] at this
  exact this
theorem erase_cells (l z:List Int) (a:Nat) (ha:a<l.length):setsL (icells (l++z)) 0 ((((l++z).take l.length).take a++((l++z).take l.length).drop (a+1)++List.replicate (a+1-a) 0).map (Value.int .i64))=icells (l.eraseIdx a++(0::z)):=by
 rw[List.take_left,setsL_eq _ _ _ (by simp[icells];omega),List.take_zero,List.nil_append,List.eraseIdx_eq_take_drop_succ]
 have hl:((l.take a++l.drop (a+1)++List.replicate (a+1-a) 0).map (Value.int .i64)).length=l.length:=by simp;omega
 rw[hl,Nat.zero_add,show a+1-a=1 by omega]
 have hd:(icells (l++z)).drop l.length=icells z:=by
  unfold icells
  rw[List.map_append,List.drop_left' (by simp)]
 rw[hd]
 simp[icells]
def idTo (n k:Nat):List Int:=(List.range k).map (fun (i:Nat)=>(i:Int))++List.replicate (n-k) 0
theorem idTo_length (n k:Nat):(idTo n k).length=k+(n-k):=by simp[idTo]
theorem idTo_zero (n:Nat):idTo n 0=List.replicate n 0:=by simp[idTo]
theorem idTo_all (n:Nat):idTo n n=(List.range n).map fun (i:Nat)=>(i:Int):=by simp[idTo]
theorem idTo_set (n k:Nat) (h:k<n):(idTo n k).set k (k:Int)=idTo n (k+1):=by
 unfold idTo
 rw[List.set_append_right _ _ (by simp),show n-k=(n-(k+1))+1 by omega,List.replicate_succ,List.length_map,List.length_range,Nat.sub_self,List.set_cons_zero,List.range_succ,List.map_append,List.append_assoc]
 rfl
def pickPost (pl:List Int) (w:World) (e:Ending) (w':World):Prop:=
 ∃g,e = .returned (.slice (some ⟨g,0,none⟩) pl.length pl.length)∧w.heap.size≤g∧Own w' g 3 (icells (pickTo pl pl.length).1)∧Below w.heap.size w w'
theorem pick_c (v:Value) (pl:List Int) (w:World) (hv:Sl w 1 v (icells pl)) (hp:PlOk pl) (hl:pl.length≤256):
  Calls Tryz.prog 141 #[v] w (pickPost pl w):=by
 obtain⟨A,c,rfl,hc1,hc2⟩:=hv.form
 simp only[icells_length] at hc1 hv ⊢
 obtain⟨n,hn⟩:∃n,n=pl.length:=⟨_,rfl⟩
 have HP:=Lib.hid hp
 have hmk:=fun W=>make_ints W n (by omega)
 have HN:=Lib.hid hn
 have HO0:=Lib.hid (Own.make w 3 (icells (List.replicate n 0)))
 rw[←hn] at hc1 hl ⊢
 clear hp hn
 go_enter Tryz.func141,Tryz.ntmps141
 go_wp2_with fail
 go_loopg [13] n (fun gh i wr=>∃k:Nat,i = .int .i64 k∧k+gh=n∧Hid (Own wr w.heap.size 3 (icells (idTo n k)))∧Hid (Below w.heap.size w wr))
 case atStart=>exact⟨0,rfl,by omega,Lib.hid (by rw[idTo_zero];exact HO0.out),Lib.hid ((Below.refl _ _).alloc (Nat.le_refl _) _)⟩
 case round=>
  clear HO0
  obtain⟨k,rfl,hk,hO,hB⟩:=hrel
  cases gk with
  | succ gh=>
   have hlt:k<n:=by omega
   have hlt':(k:Int)<(n:Int):=by omega
   have c2:=(hO.out.cell k).trans (icells_at _ k (by rw[idTo_length];omega))
   have f2:=hO.out.free k
   have HO2:Hid (Own (wr.setCell ⟨w.heap.size,k,none⟩ (.int .i64 k)) w.heap.size 3 (icells (idTo n (k+1)))):=Lib.hid (by rw[←idTo_set n k hlt,←icells_set];exact hO.out.put _ _)
   have HB2:=Lib.hid (hB.out.setCell (p:=⟨w.heap.size,k,none⟩) (Nat.le_refl _) (.int .i64 k))
   have Hk:=Lib.hid hk
   clear hO hB hk
   generalize (idTo n k)[k]?.getD 0=y at *
   go_wp2
   go_roundg gh
   case rel=>exact⟨k+1,by go_num,by have:=Hk.out;omega,HO2,HB2⟩
   case measure=>omega
  | zero=>
   have hin:¬((k:Int)<(n:Int)):=by omega
   have hs:=hB.out.size
   have hgl:=hO.out.lt
   have HOL:Hid (Own (wr.alloc (.cells (icells (List.replicate n 0)).toArray 3)) w.heap.size 3 (icells ((pickTo pl 0).2++List.replicate 0 0))):=Lib.hid (by
    have h:=hO.out.alloc (.cells (icells (List.replicate n 0)).toArray 3)
    have e:icells (idTo n k)=icells ((pickTo pl 0).2++List.replicate 0 0):=by rw[show k=n by omega,idTo_all,HN.out];simp[pickTo]
    rw[e] at h
    exact h)
   have HOP:Hid (Own (wr.alloc (.cells (icells (List.replicate n 0)).toArray 3)) wr.heap.size 3 (icells ((pickTo pl 0).1++List.replicate (n-0) 0))):=Lib.hid (by simpa [pickTo] using Own.make wr 3 (icells (List.replicate n 0)))
   have HB0:=Lib.hid (hB.out.alloc hs (.cells (icells (List.replicate n 0)).toArray 3))
   have hmk2:=hmk wr
   clear hO hB hk hmk
   go_wp2_with fail
   obtain⟨wb,rfl⟩:∃wb,wb=wr:=⟨_,rfl⟩
   go_loopg [3,26] n (fun gh lf i wx=>∃k:Nat,i = .int .i64 k∧k+gh=n∧lf = .slice (some ⟨w.heap.size,0,none⟩) (n-k) n∧Hid (Own wx w.heap.size 3 (icells ((pickTo pl k).2++List.replicate k 0)))∧Hid (Own wx wb.heap.size 3 (icells ((pickTo pl k).1++List.replicate (n-k) 0)))∧Hid (Below w.heap.size w wx))
   case atStart=>exact⟨0,rfl,by omega,by simp,HOL,HOP,HB0⟩
   case round=>
    clear HOL HOP HB0 hmk2
    obtain⟨i,rfl,hi,rfl,hL,hP,hB⟩:=hrel
    cases gk with
    | zero=>
     have hin2:¬((i:Int)<(n:Int)):=by omega
     have HPf:Hid (Own wr wb.heap.size 3 (icells (pickTo pl pl.length).1)):=Lib.hid (by
      have h:=hP.out
      rw[show i=n by omega,Nat.sub_self,HN.out] at h
      simpa using h)
     clear hi
     go_wp2
     go_ret
     exact⟨_,by rw[HN.out];rfl,hs,HPf.out,hB.out⟩
    | succ gh=>
     have hlt:i<n:=by omega
     have hlt':(i:Int)<(n:Int):=by omega
     obtain⟨hl1,hl2⟩:=pickTo_len HP.out i (by rw[←HN.out];omega)
     rw[←HN.out] at hl2
     have hpi:=HP.out i (by rw[←HN.out];exact hlt)
     rw[←HN.out] at hpi
     obtain⟨b1,off1,rfl,hbb1,hcell1⟩:=hv.at_ (k:=i) (by rw[icells_length,←HN.out];exact hlt)
     have c1:=(hB.out.cell (p:=⟨b1,off1+i,none⟩) hbb1).trans ((hcell1 i (by rw[icells_length,←HN.out];exact hlt)).trans (icells_at pl i (by rw[←HN.out];exact hlt)))
     have HS1:Hid ((pickTo pl (i+1)).1=(pickTo pl i).1++[(pickTo pl i).2[(pl[i]?.getD 0).toNat]?.getD 0]):=Lib.hid rfl
     have HS2:Hid ((pickTo pl (i+1)).2=(pickTo pl i).2.eraseIdx (pl[i]?.getD 0).toNat):=Lib.hid rfl
     generalize pl[i]?.getD 0=pa at *
     obtain⟨a,rfl⟩:=Int.eq_ofNat_of_zero_le hpi.1
     have ha:a<n-i:=by omega
     rw[Int.toNat_natCast] at HS1 HS2
     generalize hPe:(pickTo pl (i+1)).1=P' at *
     generalize hLe:(pickTo pl (i+1)).2=L' at *
     have HPe:=Lib.hid hPe
     have HLe:=Lib.hid hLe
     clear hPe hLe
     generalize (pickTo pl i).1=P at *
     generalize (pickTo pl i).2=L at *
     have c2:=(hL.out.cell a).trans (icells_at _ a (by simp;omega))
     rw[List.getElem?_append_left (by omega)] at c2
     have c3:=(hP.out.cell i).trans (icells_at _ i (by simp;omega))
     have f3:=hP.out.free i
     have hbl:=hP.out.lt
     generalize (P++List.replicate (n-i) 0)[i]?.getD 0=y at *
     generalize hx:L[a]?.getD 0=x at *
     have HP2:Hid (Own (wr.setCell ⟨wb.heap.size,i,none⟩ (.int .i64 x)) wb.heap.size 3 (icells (P'++List.replicate (n-(i+1)) 0))):=Lib.hid (by
      have h:=hP.out.put i (.int .i64 x)
      rw[icells_set,List.set_append_right _ _ (by omega),hl1,Nat.sub_self,show n-i=(n-(i+1))+1 by omega,List.replicate_succ,List.set_cons_zero] at h
      rw[HS1.out,List.append_assoc]
      exact h)
     have HL2:=Lib.hid (hL.out.other (p:=⟨wb.heap.size,i,none⟩) (by simp;omega) (.int .i64 x))
     have HB2:=Lib.hid (hB.out.setCell (p:=⟨wb.heap.size,i,none⟩) hs (.int .i64 x))
     have DL:=Lib.hid (Tryz.slices_Delete_int_cells w.heap.size 0 (n-i) n a (a+1) (L++List.replicate i 0) (wr.setCell ⟨wb.heap.size,i,none⟩ (.int .i64 x)) (by simp;omega) (by omega) (by omega) (by omega) (by omega) (fun j hj=>by
      rw[Nat.zero_add,HL2.out.cell j,icells_at _ j hj];simp) (fun j hj=>by rw[Nat.zero_add];exact HL2.out.free j))
     rw[show (((a+1:Nat)):Int)=(a:Int)+1 by omega,show n-i-(a+1-a)=n-(i+1) by omega] at DL
     have Hi:=Lib.hid hi
     clear hcell1 hP hL hB hx hi hpi
     go_wp2_with fail
     refine DL.out.mono ?_
     clear DL
     rintro e w4 ⟨rfl,q,rfl⟩
     have HL3:Hid (Own (((wr.setCell ⟨wb.heap.size,i,none⟩ (.int .i64 x)).drewN q).setCells w.heap.size 0 ((((L++List.replicate i 0).take (n-i)).take a++((L++List.replicate i 0).take (n-i)).drop (a+1)++List.replicate (a+1-a) 0).map (Value.int .i64))) w.heap.size 3 (icells (L'++List.replicate (i+1) 0))):=Lib.hid (by
      have h:=(HL2.out.drewN q).puts ((((L++List.replicate i 0).take (n-i)).take a++((L++List.replicate i 0).take (n-i)).drop (a+1)++List.replicate (a+1-a) 0).map (Value.int .i64)) 0
      have e:=erase_cells L (List.replicate i 0) a (by omega)
      rw[hl2] at e
      rw[e] at h
      rw[HS2.out,List.replicate_succ]
      exact h)
     have HP3:Hid (Own (((wr.setCell ⟨wb.heap.size,i,none⟩ (.int .i64 x)).drewN q).setCells w.heap.size 0 ((((L++List.replicate i 0).take (n-i)).take a++((L++List.replicate i 0).take (n-i)).drop (a+1)++List.replicate (a+1-a) 0).map (Value.int .i64))) wb.heap.size 3 (icells (P'++List.replicate (n-(i+1)) 0))):=Lib.hid (by
      have h:=HP2.out.drewN q
      exact(World.heap_setCells_other _ _ _ _ h.lt (by omega)).trans h)
     have HB3:=Lib.hid (below_setCells (Nat.le_refl w.heap.size) ((((L++List.replicate i 0).take (n-i)).take a++((L++List.replicate i 0).take (n-i)).drop (a+1)++List.replicate (a+1-a) 0).map (Value.int .i64)) 0 _ (below_drewN HB2.out q))
     clear HL2 HP2 HB2
     generalize (((wr.setCell ⟨wb.heap.size,i,none⟩ (.int .i64 x)).drewN q).setCells w.heap.size 0 ((((L++List.replicate i 0).take (n-i)).take a++((L++List.replicate i 0).take (n-i)).drop (a+1)++List.replicate (a+1-a) 0).map (Value.int .i64)))=w5 at *
     go_wp2
     go_roundg gh
     case rel=>exact⟨i+1,by go_num,by have:=Hi.out;omega,rfl,by rw[HLe.out];exact HL3,by rw[HPe.out];exact HP3,HB3⟩
     case measure=>omega
end Go.Proofs.YtneafcdfnhnpnaaGreatDoor
