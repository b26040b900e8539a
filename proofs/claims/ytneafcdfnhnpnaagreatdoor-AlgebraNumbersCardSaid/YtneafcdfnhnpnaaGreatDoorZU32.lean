/- Contracts: cyclesOf, Sign. -/
import Derived.Test.YtneafcdfnhnpnaaGreatDoorZU31
import Derived.Test.YtneafcdfnhnpnaaGreatDoorZU10
import Derived.Test.YtneafcdfnhnpnaaGreatDoorZU12
import Derived.OrdersIn
import Derived.BigRegionIn
import Derived.Test.YtneafcdfnhnpnaaGreatDoorZU09
import Derived.Test.YtneafcdfnhnpnaaGreatDoorZU30
import Derived.Test.YtneafcdfnhnpnaaGreatDoorZU11
set_option maxRecDepth 100000
set_option maxHeartbeats 4000000
namespace Go.Proofs.YtneafcdfnhnpnaaGreatDoor
open Go.RowKit Go.Lib Go.Shelf
attribute [local go_sem] Oper.semAt_some
theorem cyclesOf_c (A:Option Addr) (n c:Nat) (w:World):Calls Tryz.prog 136 #[.slice A n c] w fun e w'=>e = .returned (.func (.func 191) #[] #[.pointer (some ⟨w.heap.size,0,none⟩)])∧w'=w.alloc (.cells #[.slice A n c] 50):=by
 go_enter Tryz.func136,Tryz.ntmps136
 go_wp2
 go_ret
 exact⟨rfl,rfl⟩
def signL (cs:List (List Int)):Int:=cs.foldl (fun s c=>if c.length%2=0 then -s else s) 1
theorem signL_snoc (cs:List (List Int)) (c:List Int):signL (cs++[c])=if c.length%2=0 then -(signL cs) else signL cs:=by simp[signL]
theorem signL_pm (cs:List (List Int)):signL cs=1∨signL cs = -1:=by
 have h:∀(cs:List (List Int)) (s:Int),(s=1∨s = -1)→(cs.foldl (fun s c=>if c.length%2=0 then -s else s) s=1∨cs.foldl (fun s c=>if c.length%2=0 then -s else s) s = -1):=by
  intro cs
  induction cs with
  | nil=>intro s hs;exact hs
  | cons c cs ih=>intro s hs;rw[List.foldl_cons];refine ih _ ?_;split <;> omega
 exact h cs 1 (.inl rfl)
theorem RdP.ofSl {w:World} {p:List Int} {A:Option Addr} {c Bp:Nat} (h:Sl w 1 (.slice A p.length c) (icells p)) (hB:Bp<w.heap.size):∃b0 off,RdP p A b0 off w∧(b0=Bp∨p≠[]):=by
 by_cases hp:p=[]
 ·exact⟨Bp,0,⟨hB,fun j u hu=>by subst hp;simp[icells] at hu⟩,.inl rfl⟩
 ·obtain⟨b,off,hA,hb,hc⟩:=h.at_ (k:=0) (by rw[icells_length];exact List.length_pos_iff.2 hp)
  refine⟨b,off,⟨hb,fun j u hu=>⟨hA,?_⟩⟩,.inr hp⟩
  obtain⟨hj,_⟩:=List.getElem?_eq_some_iff.1 hu
  exact(hc j hj).trans hu
theorem cycs_ne {p:List Int} {pre post:List (List Int)} {x:List Int} (h:cycs p=pre++x::post):p≠[]:=by
 rintro rfl
 have:cycs []=[]:=rfl
 rw[this] at h
 simp at h
theorem Own.putObjQ {w:World} {g l:Nat} {t:TypeId} {cs:List Value} (h:Own w g t cs) (hl:g≠l) (o:Obj):Own (w.putObj l o) g t cs:=(World.putObj_heap_other hl).trans h
theorem Below.putObjQ {B l:Nat} {a w:World} (h:Below B a w) (hl:B≤l) (o:Obj):Below B a (w.putObj l o):=
 ⟨h.os,h.tape,h.output,by have:=h.size;simpa [World.putObj] using this,fun k hk=>(World.putObj_heap_other (by omega)).trans (h.block k hk)⟩
theorem KpC.putObjQ (Bp b0 sb l:Nat) (w:World) (o:Obj) (h1:sb≠l) (h2:Bp≠l) (h3:b0≠l):KpC Bp b0 sb w (w.putObj l o):=
 ⟨by simp[World.putObj],World.putObj_heap_other h1,World.putObj_heap_other h2,World.putObj_heap_other h3⟩
theorem PrC.putObjQ {sb l:Nat} {x:List Int} {v:Value} {w:World} (h:PrC sb x v w) (hl:l<sb) (o:Obj):PrC sb x v (w.putObj l o):=by
 obtain⟨base,h1,h2,h3,h4⟩:=h
 exact⟨base,h1,by simpa [World.putObj] using h2,oKeep h3 (fun k _ e=>World.putObj_heap_other (by have:=(h3.lt k e).1;omega)),h4⟩
def signPost (p:List Int) (w:World) (e:Ending) (w':World):Prop:=
 e = .returned (.tuple #[.int .i64 (if permErr p=0 then signL (cycs p) else 0),.int .i64 (permErr p)])∧Below w.heap.size w w'
theorem Sign_c (v:Value) (p:List Int) (w:World) (hv:Sl w 1 v (icells p)):Calls Tryz.prog 50 #[v] w (signPost p w):=by
 obtain⟨A,c,rfl,hc1,hc2⟩:=hv.form
 simp only[icells_length] at hc1 hv ⊢
 have CP:=hid (fun W h=>CheckPerm_c (.slice A p.length c) p W h)
 by_cases he:permErr p=0
 ·have hPp:PermL p∧p.length≤256:=by unfold permErr at he;split at he;omega;split at he;exact⟨by assumption,by omega⟩;omega
  have HV:=hid hv
  have He:=hid he
  obtain⟨hP,hl⟩:=hPp
  have HP:=hid hP
  clear hv he hP
  refine(callsIn_wide (n:=4)).1 ?_
  refine callsIn_of_wp_marks Tryz.func50 rfl trivial ?_ rfl
  simp only[Tryz.ntmps50,List.size_toArray,List.length_cons,List.length_nil,Nat.reduceAdd,Nat.reduceSub,Array.replicate_succ,Array.replicate_zero,List.push_toArray,List.append_toArray,List.nil_append,List.cons_append]
  gi_wp2_with (first | (refine⟨trivial,?_⟩;gi_at_call 45;refine(callsIn_wide.2 (CP.out _ HV.out)).mono ?_;rintro e w1 ⟨rfl,hB1⟩;rw[He.out]) | (refine⟨trivial,?_⟩;gi_at_call 136;refine(callsIn_wide.2 (cyclesOf_c _ _ _ _)).mono ?_;rintro e w2 ⟨rfl,rfl⟩))
  have hn1:=hB1.size
  have hal:Below w1.heap.size w1 ((w1.alloc (.cells #[.int .i64 1] 3)).alloc (.cells #[.slice A p.length c] 50)):=((Below.refl _ w1).alloc (Nat.le_refl _) _).alloc (by simp) _
  have hOs:=(Own.make w1 3 [.int .i64 1]).alloc (.cells #[.slice A p.length c] 50)
  have hOb:=Own.make (w1.alloc (.cells #[.int .i64 1] 3)) 50 [.slice A p.length c]
  simp only[World.size_alloc] at hOb
  have hsl:=(HV.out.below hB1).below hal
  have hBw:=hB1.trans (hal.mono hn1)
  have hsz:((w1.alloc (.cells #[.int .i64 1] 3)).alloc (.cells #[.slice A p.length c] 50)).heap.size=w1.heap.size+2:=by simp
  obtain⟨w3,hw3⟩:∃w3,w3=(w1.alloc (.cells #[.int .i64 1] 3)).alloc (.cells #[.slice A p.length c] 50):=⟨_,rfl⟩
  rw[←hw3] at hal hOs hOb hsl hsz hBw ⊢
  clear hw3
  obtain⟨b0,off,hRd,hb0⟩:=RdP.ofSl (Bp:=w1.heap.size+1) hsl (by omega)
  have hb0w:b0=w1.heap.size+1∨(p≠[]∧b0<w1.heap.size):=by
   rcases hb0 with h | h
   ·exact .inl h
   ·refine .inr ⟨h,?_⟩
    obtain⟨b,o,hA,hb,_⟩:=(HV.out.below hB1).at_ (k:=0) (by rw[icells_length];exact List.length_pos_iff.2 h)
    have h1:=(hRd.2 0 _ (icells_at p 0 (List.length_pos_iff.2 h))).1
    rw[hA] at h1
    cases h1
    exact hb
  refine range_own (gf:=191) (lb:= #[.pointer (some ⟨w1.heap.size+1,0,none⟩)]) (xs:=cycs p) (Pr:=PrC) (Kp:=KpC (w1.heap.size+1) b0) rfl (enters_of Tryz.func191 (by kernel_rfl) rfl)
   (fun W hW hs=>cycles_in p A c (w1.heap.size+1) b0 off HP.out hl W ((hW.cell (p:=⟨w1.heap.size+1,0,none⟩) (by simp;omega)).trans (hOb.cell 0)) (by omega) (hRd.same hW.size (hW.block b0 (by rcases hb0w with h | h <;> omega)))) rfl
   (fun pre A=>Own A w1.heap.size 3 [.int .i64 (signL pre)]∧Below w.heap.size w A)
   (fun pre A A' h hb=>⟨h.1.but hb (by omega),h.2.trans (hb.toBelow (by omega) (Nat.le_trans (by have:=h.2.size;omega) (Nat.le_refl _)))⟩)
   (fun pre A l o h hl _=>⟨h.1.putObjQ (by omega) o,Below.putObjQ h.2 (by omega) o⟩)
   (fun A B C h k=>h.trans k) (fun A o hlt=>KpC.putObjQ _ _ _ _ A o (by omega) (by omega) (by rcases hb0w with h | h <;> omega))
   (fun x v A o hlt h=>h.putObjQ (by omega) o)
   (fun o1 o2=>⟨(hOs.alloc _).alloc _,(hBw.alloc (by omega) _).alloc (by simp;omega) _⟩)
   (fun v=> { tmps:= #[.slice A p.length c,undef,.int .i64 0,.int .i64 0,.int .i64 0,.pointer (some ⟨w1.heap.size,0,none⟩),v,.slice A p.length c,.int .i64 0,.int .i64 0,.bool false,undef,.slice A p.length c,.func (.func 191) #[] #[.pointer (some ⟨w1.heap.size+1,0,none⟩)],v,undef,undef,undef,undef,undef,undef,undef],defers:=[] })
   ?assign ?body ?done
  case assign=>
   intro l v W K hK
   gi_wp2
   exact hK
  case body=>
   rintro l pre x post v A' hx ⟨hO,hB⟩ hlt ⟨base,hb1,hb2,hrow,hne⟩
   obtain⟨A2,c2,rfl,_,_⟩:=oForm hrow
   have hpe:=cycs_ne hx
   have hb0':b0≠w1.heap.size:=by
    rcases hb0w with h | h
    ·omega
    ·omega
   have hcl:A'.cell? ⟨w1.heap.size,0,none⟩=some (.int .i64 (signL pre)):=hO.cell 0
   have hfr:=hO.free 0
   have hst:=signL_snoc pre x
   have hpm:=signL_pm pre
   have HO:=hid hO
   have HB:=hid hB
   clear hO hB hrow
   generalize signL pre=s at *
   have hs1: -1≤s∧s≤1:=by omega
   clear hpm
   gi_wp2
   ·rename_i hev
    have hev':x.length%2=0:=by simp at hev;omega
    rw[if_pos hev'] at hst
    refine⟨Below.heap_setCell _ _ _ _ (by simp;omega),Below.heap_setCell _ _ _ _ (by simp;omega),⟨by rw[hst];exact HO.out.put 0 _,HB.out.setCell (by simp;omega) _⟩,?_⟩
    exact⟨by simp,Below.heap_setCell _ _ _ _ (by simp;omega),Below.heap_setCell _ _ _ _ (by simp),Below.heap_setCell _ _ _ _ hb0'⟩
   ·rename_i hev
    have hev':¬x.length%2=0:=by simp at hev;omega
    rw[if_neg hev'] at hst
    exact⟨rfl,rfl,⟨by rw[hst];exact HO.out,HB.out⟩,Nat.le_refl _,rfl,rfl,rfl⟩
  case done=>
   rintro W ⟨hO,hB⟩ hD
   have hcl:W.cell? ⟨w1.heap.size,0,none⟩=some (.int .i64 (signL (cycs p))):=hO.cell 0
   have HB:=hid hB
   have HD:=hid hD
   clear hB hD hO
   gi_wp2
   refine⟨by simp,.inl ⟨_,_,rfl,run_takeDeferred HD.out,?_⟩⟩
   exact⟨_,results_tmp2 rfl _ _ _,by rw[if_pos He.out,He.out];rfl,Below.putObjQ HB.out (by omega) _⟩
 ·have hne:(permErr p != 0)=true:=by simpa using he
  have He:=hid he
  have HV:=hid hv
  clear he hv
  go_enter Tryz.func50,Tryz.ntmps50
  go_wp2_with fail
  refine(CP.out _ HV.out).mono ?_
  rintro e w1 ⟨rfl,hB1⟩
  have HB1:=hid hB1
  clear hB1 CP
  generalize hec:permErr p=ec at *
  have HEC:=hid hec
  clear hec
  go_wp2
  go_ret2
  exact⟨by rw[HEC.out,if_neg He.out];rfl,HB1.out⟩
end Go.Proofs.YtneafcdfnhnpnaaGreatDoor
namespace Go.Proofs.YtneafcdfnhnpnaaGreatDoor
open Go.RowKit Go.Lib Go.Shelf
attribute [local go_sem] Oper.semAt_some
def TI (w:World) (base:Nat) (v:Value) (M:List (List Int)):Prop:=
 ∃vs:List Value,w.ownsRow base 50 1 v M.length vs∧vs.length=M.length ∧ ∀(i:Nat) (x:List Int),M[i]? =some x → ∃u bx,vs[i]? =some u∧base≤bx∧w.ownsRow bx 3 1 u x.length (icells x)
theorem TI.keep {w w':World} {base:Nat} {v:Value} {M:List (List Int)} (h:TI w base v M) (hk:∀k,base≤k→k<w.heap.size→w'.heap[k]? =w.heap[k]?):TI w' base v M:=by
 obtain⟨vs,h1,h2,h3⟩:=h
 refine⟨vs,oKeep h1 (fun k hl e=>hk k (h1.lt k e).1 hl),h2,fun i x hx=> ?_⟩
 obtain⟨u,bx,hu,hb,hr⟩:=h3 i x hx
 exact⟨u,bx,hu,hb,oKeep hr (fun k hl e=>hk k (Nat.le_trans hb (hr.lt k e).1) hl)⟩
theorem TI.form {w:World} {base:Nat} {v:Value} {M:List (List Int)} (h:TI w base v M):∃A c,v = .slice A M.length c∧M.length≤c∧c≤maxLen:=by
 obtain⟨vs,h1,_⟩:=h;exact oForm h1
theorem TI.snoc {w w':World} {base:Nat} {v v' u:Value} {M:List (List Int)} {x:List Int} {vs:List Value} (h1:w.ownsRow base 50 1 v M.length vs) (h2:vs.length=M.length)
  (h3:∀(i:Nat) (x:List Int),M[i]? =some x → ∃u bx,vs[i]? =some u∧base≤bx∧w.ownsRow bx 3 1 u x.length (icells x)) {bx:Nat} (hb:base≤bx) (hu:w.ownsRow bx 3 1 u x.length (icells x))
  (hown:w'.ownsRow base 50 1 v' (M.length+1) (vs++[u])) (hg:w.grownBy w' v.ownBlock):TI w' base v' (M++[x]):=by
 have hK:∀(bx:Nat) (u:Value) (x:List Int),w.ownsRow bx 3 1 u x.length (icells x)→w'.ownsRow bx 3 1 u x.length (icells x):=fun bx u x hr=>
  oKeep hr (fun k hl e=>hg.block k hl (fun e'=>own_ne2 hr h1 (by decide) k e e'.symm))
 refine⟨vs++[u],by rw[List.length_append];exact hown,by simp[h2],fun i y hy=> ?_⟩
 rcases Nat.lt_or_ge i M.length with hi | hi
 ·rw[List.getElem?_append_left hi] at hy
  obtain⟨u',b',hu',hb',hr'⟩:=h3 i y hy
  exact⟨u',b',by rw[List.getElem?_append_left (by omega)];exact hu',hb',hK _ _ _ hr'⟩
 ·rw[List.getElem?_append_right hi] at hy
  have h0:i-M.length=0:=by
   rcases Nat.eq_zero_or_pos (i-M.length) with h0 | h0
   ·exact h0
   ·rw[List.getElem?_eq_none (by simp;omega)] at hy;cases hy
  rw[h0] at hy
  simp at hy
  subst hy
  exact⟨u,bx,by rw[List.getElem?_append_right (by omega),h2,h0];rfl,hb,hK _ _ _ hu⟩
theorem cycs_len (p:List Int):(cycs p).length≤p.length:=by
 have h:∀k,(cycTo p k).1.length≤k:=by
  intro k
  induction k with
  | zero=>simp[cycTo]
  | succ k ih=>rw[cycTo];split
               ·omega
               ·simp;omega
 exact h _
def tabPost (M:List (List Int)) (w:World) (e:Ending) (w':World):Prop:=∃v base,e = .returned v∧w.heap.size≤base∧TI w' base v M∧Below w.heap.size w w'
theorem AppendSeq_c (p:List Int) (A:Option Addr) (c Bp b0 off:Nat) (w:World) (hp:PermL p) (hl:p.length≤256) (hbox:Own w Bp 50 [.slice A p.length c]) (hR:RdP p A b0 off w):
  Calls Tryz.prog 192 #[.slice none 0 0,.func (.func 191) #[] #[.pointer (some ⟨Bp,0,none⟩)]] w (tabPost (cycs p) w):=by
 obtain⟨i0,hi0,hz0,hz1,hz2⟩:=info_parts info_sli
 have HP:=hid hp
 have HB:=hid hbox
 have HR:=hid hR
 clear hp hbox hR
 refine(callsIn_wide (n:=4)).1 ?_
 refine callsIn_of_wp_marks Tryz.func192 rfl trivial ?_ rfl
 simp only[Tryz.ntmps192,List.size_toArray,List.length_cons,List.length_nil,Nat.reduceAdd,Nat.reduceSub,Array.replicate_succ,Array.replicate_zero,List.push_toArray,List.append_toArray,List.nil_append,List.cons_append]
 gi_wp2
 have hBl:=HB.out.lt
 have hbl:=HR.out.1
 have hal:Below w.heap.size w (w.alloc (.cells #[.slice none 0 0] 57)):=(Below.refl _ w).alloc (Nat.le_refl _) _
 have hO0:=Own.make w 57 [.slice none 0 0]
 have hsz:(w.alloc (.cells #[.slice none 0 0] 57)).heap.size=w.heap.size+1:=by simp
 obtain⟨w3,hw3⟩:∃w3,w3=w.alloc (.cells #[.slice none 0 0] 57):=⟨_,rfl⟩
 change Own (w.alloc (.cells #[.slice none 0 0] 57)) _ _ _ at hO0
 rw[←hw3] at hal hO0 hsz ⊢
 clear hw3
 refine range_own (gf:=191) (lb:= #[.pointer (some ⟨Bp,0,none⟩)]) (xs:=cycs p) (Pr:=PrC) (Kp:=KpC Bp b0) rfl (enters_of Tryz.func191 (by kernel_rfl) rfl)
  (fun W hW hs=>cycles_in p A c Bp b0 off HP.out hl W (((hW.cell (p:=⟨Bp,0,none⟩) (by simp;omega)).trans (hal.cell (p:=⟨Bp,0,none⟩) hBl)).trans (HB.out.cell 0)) (by omega) ((HR.out.same hal.size (hal.block b0 hbl)).same hW.size (hW.block b0 (by omega)))) rfl
  (fun pre A'=>(∃v,Own A' w.heap.size 57 [v]∧TI A' (w3.heap.size+3) v pre)∧Below w.heap.size w A')
  (fun pre A' A2 h hb=>⟨by obtain⟨v,h1,h2⟩:=h.1;exact⟨v,h1.but hb (by omega),h2.keep fun k h3 h4=>hb.block k h4 (by omega)⟩,h.2.trans (hb.toBelow (by omega) h.2.size)⟩)
  (fun pre A' l o h hl _=>⟨by obtain⟨v,h1,h2⟩:=h.1;exact⟨v,h1.putObjQ (by omega) o,h2.keep fun k h3 h4=>World.putObj_heap_other (by omega)⟩,Below.putObjQ h.2 (by omega) o⟩)
  (fun A' B C h k=>h.trans k) (fun A' o hlt=>KpC.putObjQ _ _ _ _ A' o (by omega) (by omega) (by omega))
  (fun x v A' o hlt h=>h.putObjQ (by omega) o)
  (fun o1 o2=>⟨⟨_,(hO0.alloc _).alloc _,[],World.ownsRow_nil _ _ _ _,rfl,fun i x h=>by simp at h⟩,(hal.alloc (by omega) _).alloc (by simp;omega) _⟩)
  (fun v=> { tmps:= #[.slice none 0 0,.func (.func 191) #[] #[.pointer (some ⟨Bp,0,none⟩)],.pointer (some ⟨w.heap.size,0,none⟩),undef,.slice none 0 0,v,.func (.func 191) #[] #[.pointer (some ⟨Bp,0,none⟩)],v,undef,undef,undef,undef,undef],defers:=[] })
  ?assign ?body ?done
 case assign=>
  intro l v W K hK
  gi_wp2
  exact hK
 case body=>
  rintro l pre x post u A' hx ⟨⟨v,hO,vs,hv1,hv2,hv3⟩,hB⟩ hlt ⟨base,hb1,hb2,hrow,hne⟩
  have hcl:A'.cell? ⟨w.heap.size,0,none⟩=some v:=hO.cell 0
  have hfr:=hO.free 0
  have hpl:pre.length<256:=by
   have h1:=cycs_len p
   rw[hx] at h1
   simp at h1
   omega
  obtain⟨A2,c2,hu,_,_⟩:=oForm hrow
  obtain⟨A5,c5,hv,_,_⟩:=oForm hv1
  have HO:=hid hO
  have HBw:=hid hB
  have HV1:=hid hv1
  have HV3:=hid hv3
  have HRow:=hid hrow
  have H0:=hid (oBelow hv1 ((Below.refl A'.heap.size A').alloc (Nat.le_refl _) (.cells #[u] 50)))
  subst hu hv
  clear hO hB hv1 hv3 hrow
  gi_wp2_with (gi_at_builtin;(refine wpListIn_append_own _ rfl _ _ 57 rfl (w3.heap.size+3) 50 i0 (.slice none 0 0) 1 24 Tryz.underlying57 hi0 hz0 hz1 hz2 rfl (by decide) _ _ _ rfl H0.out ⟨A'.heap.size,0,none⟩ 1 1 [.slice A2 x.length c2] rfl rfl (cell_one_new _ _ _) (fun x hx=>by simp at hx;subst hx;rfl) (by unfold maxLen;omega) (by omega) (by simp;omega) ?_;intro v' w1 hown' hgrow _;obtain⟨A7,c7,rfl,_,_⟩:=oForm hown';have hg:(A'.alloc (.cells #[.slice A2 x.length c2] 50)).grownBy w1 (Value.slice A5 pre.length c5).ownBlock:=hgrow;have hO1:=(HO.out.alloc (.cells #[.slice A2 x.length c2] 50)).grown hg (fun e=>by have:=(H0.out.lt _ e).1;omega);have hc1:w1.cell? ⟨w.heap.size,0,none⟩=some (.slice A5 pre.length c5):=hO1.cell 0;have hf1:=hO1.free 0;have HO1:=hid hO1;have HG:=hid hg;have HOW:=hid hown';clear hgrow hown' hO1 hg))
  have halb:Below A'.heap.size A' (A'.alloc (.cells #[.slice A2 x.length c2] 50)):=(Below.refl _ _).alloc (Nat.le_refl _) _
  have hkeep:∀k,k<A'.heap.size→k≠w.heap.size→k<w3.heap.size+3→(w1.setCell ⟨w.heap.size,0,none⟩ (.slice A7 (pre.length+1) c7)).heap[k]? =A'.heap[k]? :=fun k h1 h2 h3=>
   (Below.heap_setCell _ _ _ _ (by simpa using h2)).trans ((HG.out.block k (Nat.lt_of_lt_of_le h1 halb.size) (fun e=>by have:=(H0.out.lt k e.symm).1;omega)).trans (halb.block k h1))
  have hT:TI w1 (w3.heap.size+3) (.slice A7 (pre.length+1) c7) (pre++[x]):=TI.snoc H0.out hv2
   (fun i y hy=>by obtain⟨u,bx,h1,h2,h3⟩:=HV3.out i y hy;exact⟨u,bx,h1,h2,oBelow h3 halb⟩) (by omega) (oBelow HRow.out halb) HOW.out HG.out
  have hsz1:A'.heap.size≤w1.heap.size:=Nat.le_trans halb.size HG.out.size
  have hBw1:Below w.heap.size w w1:=Below.grown (HBw.out.alloc HBw.out.size _) HG.out (by have:=HBw.out.size;simp;omega) (fun k hk=>by have:=(H0.out.lt k hk).1;omega)
  exact⟨hkeep _ (by omega) (by omega) (by omega),hkeep _ (by omega) (by omega) (by omega),
   ⟨⟨_,HO1.out.put 0 _,hT.keep fun k h3 h4=>Below.heap_setCell _ _ _ _ (by simp;omega)⟩,hBw1.setCell (by simp) _⟩,
   by simpa using hsz1,hkeep _ (by omega) (by omega) (by omega),hkeep _ (by omega) (by omega) (by omega),hkeep _ (by omega) (by omega) (by omega)⟩
 case done=>
  rintro W ⟨⟨v,hO,hT⟩,hB⟩ hD
  have hcl:W.cell? ⟨w.heap.size,0,none⟩=some v:=hO.cell 0
  obtain⟨A5,c5,rfl,_,_⟩:=hT.form
  have HB:=hid hB
  have HD:=hid hD
  have HT:=hid hT
  clear hB hD hO hT
  gi_wp2
  refine⟨by simp,.inl ⟨_,_,rfl,run_takeDeferred HD.out,?_⟩⟩
  exact⟨_,results_tmp rfl _ _ _,_,w3.heap.size+3,rfl,by omega,HT.out.keep fun k h3 h4=>World.putObj_heap_other (by omega),Below.putObjQ HB.out (by omega) _⟩
end Go.Proofs.YtneafcdfnhnpnaaGreatDoor
namespace Go.Proofs.YtneafcdfnhnpnaaGreatDoor
open Go.RowKit Go.Lib
theorem Collect_c (p:List Int) (A:Option Addr) (c Bp b0 off:Nat) (w:World) (hp:PermL p) (hl:p.length≤256) (hbox:Own w Bp 50 [.slice A p.length c]) (hR:RdP p A b0 off w):
  Calls Tryz.prog 137 #[.func (.func 191) #[] #[.pointer (some ⟨Bp,0,none⟩)]] w (tabPost (cycs p) w):=by
 have AS:=hid (AppendSeq_c p A c Bp b0 off w hp hl hbox hR)
 clear hp hbox hR
 go_enter Tryz.func137,Tryz.ntmps137
 go_wp2_with fail
 refine AS.out.mono ?_
 rintro e w1 ⟨v,base,rfl,hb,hT,hB⟩
 obtain⟨A5,c5,rfl,_,_⟩:=hT.form
 have HT:=hid hT
 have HB:=hid hB
 clear hT hB AS
 go_wp2
 go_ret
 exact⟨_,base,rfl,hb,HT.out,HB.out⟩
def cycPost (p:List Int) (w:World) (e:Ending) (w':World):Prop:=
 Below w.heap.size w w'∧((permErr p=0 ∧ ∃v base,e = .returned (.tuple #[v,.int .i64 0])∧w.heap.size≤base∧TI w' base v (cycs p))∨(permErr p≠0∧e = .returned (.tuple #[nilV,.int .i64 (permErr p)])))
theorem Cycles_c (v:Value) (p:List Int) (w:World) (hv:Sl w 1 v (icells p)):Calls Tryz.prog 49 #[v] w (cycPost p w):=by
 obtain⟨A,c,rfl,hc1,hc2⟩:=hv.form
 simp only[icells_length] at hc1 hv ⊢
 have CP:=hid (fun W h=>CheckPerm_c (.slice A p.length c) p W h)
 by_cases he:permErr p=0
 ·have hPp:PermL p∧p.length≤256:=by unfold permErr at he;split at he;omega;split at he;exact⟨by assumption,by omega⟩;omega
  have HV:=hid hv
  have He:=hid he
  have HPp:=hid hPp
  clear hv he hPp
  go_enter Tryz.func49,Tryz.ntmps49
  go_wp2_with fail
  refine(CP.out _ HV.out).mono ?_
  rintro e w1 ⟨rfl,hB1⟩
  rw[He.out]
  have hsl:=HV.out.below hB1
  have HB1:=hid hB1
  have hal:Below w1.heap.size w1 (w1.alloc (.cells #[.slice A p.length c] 50)):=(Below.refl _ w1).alloc (Nat.le_refl _) _
  have hOb:=Own.make w1 50 [.slice A p.length c]
  obtain⟨b0,off,hRd,_⟩:=RdP.ofSl (Bp:=w1.heap.size) (hsl.below hal) (by simp)
  have CL:=hid (Collect_c p A c w1.heap.size b0 off (w1.alloc (.cells #[.slice A p.length c] 50)) HPp.out.1 HPp.out.2 hOb hRd)
  have HB2:=hid (hB1.trans (hal.mono hB1.size))
  clear hsl hal hOb hRd hB1 HV CP
  go_wp2_with fail
  refine(cyclesOf_c _ _ _ _).mono ?_
  rintro e w2 ⟨rfl,rfl⟩
  go_wp2_with fail
  refine CL.out.mono ?_
  rintro e w3 ⟨u,base,rfl,hb,hT,hB⟩
  obtain⟨A5,c5,rfl,_,_⟩:=hT.form
  have HT:=hid hT
  have HB3:=hid (HB2.out.trans (hB.mono HB2.out.size))
  have hbw:w.heap.size≤base:=Nat.le_trans HB2.out.size hb
  clear hT hB CL
  go_wp2
  go_ret2
  exact⟨HB3.out,.inl ⟨He.out,_,base,rfl,hbw,HT.out⟩⟩
 ·have hne:(permErr p != 0)=true:=by simpa using he
  have He:=hid he
  have HV:=hid hv
  clear he hv
  go_enter Tryz.func49,Tryz.ntmps49
  go_wp2_with fail
  refine(CP.out _ HV.out).mono ?_
  rintro e w1 ⟨rfl,hB1⟩
  have HB1:=hid hB1
  clear hB1 CP
  generalize hec:permErr p=ec at *
  have HEC:=hid hec
  clear hec
  go_wp2
  go_ret2
  exact⟨HB1.out,.inr ⟨by rw[HEC.out];exact He.out,by rw[HEC.out];rfl⟩⟩
def noDefer (ops:Array Oper):Bool:=ops.all fun o=>match o.op with | .defer _=>false | _=>true
theorem noDefer_spec {ops:Array Oper} (h:noDefer ops=true) {i:Nat} {o:Oper} (ho:ops[i]? =some o):∀c,o.op ≠ .defer c:=by
 intro c hc
 have hm:o∈ops:=Array.mem_of_getElem? ho
 have:=Array.all_eq_true'.1 h o hm
 rw[hc] at this
 cases this
section
variable {F:Fence} {n l:Nat} {P:Program} {ops:Array Oper} {Q:Exit→Act→World→Prop} {md:Region.Mode}
theorem wpOpIn_inRound {i:Nat} {K K':Act→World→Prop} {a:Act} {w:World} (hd:noDefer ops=true) (hK:∀a w,K a w→K' a w)
  (hh:wpOpIn F n P ops Q i K a w):wpOpIn (F.inRound l) n P ops Q i K' a w:=by
 have hh:=wpOpIn_mono hK hh
 unfold wpOpIn at *
 split
 ·rename_i hn;simpa [hn] using hh
 ·rename_i o ho
  simp only[ho] at hh
  split
  ·rename_i hw
   simp only[hw,if_true] at hh
   unfold Oper.wpIn at *
   rw[Oper.semAt_eq _ _ _ (noDefer_spec hd ho)] at hh ⊢
   exact hh
  ·rename_i hw;simpa [hw] using hh
theorem wpAnyIn_inRound (hd:noDefer ops=true):∀(fuel:Nat) (listed:Array Bool) (a:Act) (w:World),wpAnyIn F n P md ops Q fuel listed a w→wpAnyIn (F.inRound l) n P md ops Q fuel listed a w
 | 0,_,_,_,h=>h
 | fuel+1,_,_,_,h=>⟨h.1,fun i hi=>wpOpIn_inRound hd (fun a w hh=>wpAnyIn_inRound hd fuel _ a w hh) (h.2 i hi)⟩
theorem wpIn_region_round {id:Nat} {a:Act} {w:World} (hm:P.follows .mixedOrders=true) (hd:noDefer ops=true)
  (h:wpAnyIn F n P .any ops Q ops.size (Array.replicate ops.size false) a w.drew):(Code.region id ops true).wpIn (F.inRound l) n P Q a w:=
 wpIn_region_any hm (wpAnyIn_inRound hd _ _ _ _ h)
end
end Go.Proofs.YtneafcdfnhnpnaaGreatDoor
namespace Go.Proofs.YtneafcdfnhnpnaaGreatDoor
open Go.RowKit Go.Lib Go.Shelf
attribute [local go_sem] Oper.semAt_some
theorem wrapI (n:Int) (h: -9223372036854775808≤n∧n≤9223372036854775807):IntKind.i64.wrap n=n:=by rw[IntKind.wrap_i64];omega
theorem follow_mem (p:List Int):∀(f:Nat) (s:List Bool) (i:Nat) (x:Int),x∈(follow p f s i).1→0≤x∧x<s.length
 | 0,s,i,x,h=>by simp[follow] at h
 | f+1,s,i,x,h=>by
  rw[follow] at h
  split at h
  ·simp at h
  ·rename_i hs
   simp only[List.mem_cons] at h
   rcases h with rfl | h
   ·have:i<s.length:=by
     rcases Nat.lt_or_ge i s.length with h | h
     ·exact h
     ·rw[List.getElem?_eq_none h] at hs;exact absurd rfl hs
    omega
   ·have:=follow_mem p f _ _ x h
    simpa using this
theorem cycTo_mem (p:List Int):∀(k:Nat) (c:List Int),c∈(cycTo p k).1 → ∀x∈c,0≤x∧x<p.length
 | 0,c,h=>by simp[cycTo] at h
 | k+1,c,h=>by
  rw[cycTo] at h
  split at h
  ·exact cycTo_mem p k c h
  ·simp only[List.mem_append,List.mem_singleton] at h
   rcases h with h | rfl
   ·exact cycTo_mem p k c h
   ·intro x hx
    have:=follow_mem p _ _ _ x hx
    rwa [cycTo_len] at this
theorem follow_fuel (p:List Int):∀(f:Nat) (s:List Bool) (i:Nat),(follow p f s i).1.length≤f
 | 0,s,i=>by simp[follow]
 | f+1,s,i=>by
  rw[follow]
  split
  ·simp
  ·have:=follow_fuel p f (s.set i true) (p[i]?.getD 0).toNat
   simpa using this
theorem cycTo_short (p:List Int):∀(k:Nat) (c:List Int),c∈(cycTo p k).1→c.length≤p.length
 | 0,c,h=>by simp[cycTo] at h
 | k+1,c,h=>by
  rw[cycTo] at h
  split at h
  ·exact cycTo_short p k c h
  ·simp only[List.mem_append,List.mem_singleton] at h
   rcases h with h | rfl
   ·exact cycTo_short p k c h
   ·exact follow_fuel p _ _ _
def powR (c:List Int) (t:Nat) (r:List Int):Nat→List Int
 | 0=>r
 | i+1=>(powR c t r i).set (c[i]?.getD 0).toNat (c[(i+t)%c.length]?.getD 0)
def powC (k:Int) (r:List Int) (c:List Int):List Int:=powR c (k%(c.length:Int)).toNat r c.length
def powTo (p:List Int) (k:Int) (cs:List (List Int)):List Int:=cs.foldl (powC k) (List.replicate p.length 0)
def powL (p:List Int) (k:Int):List Int:=powTo p k (cycs p)
theorem powR_len (c:List Int) (t:Nat) (r:List Int):∀i,(powR c t r i).length=r.length
 | 0=>rfl
 | i+1=>by rw[powR,List.length_set,powR_len c t r i]
theorem powTo_len (p:List Int) (k:Int) (cs:List (List Int)):(powTo p k cs).length=p.length:=by
 have h:∀(cs:List (List Int)) (r:List Int),(cs.foldl (powC k) r).length=r.length:=by
  intro cs
  induction cs with
  | nil=>intro r;rfl
  | cons c cs ih=>intro r;rw[List.foldl_cons,ih,powC,powR_len]
 rw[powTo,h,List.length_replicate]
theorem powTo_snoc (p:List Int) (k:Int) (cs:List (List Int)) (c:List Int):powTo p k (cs++[c])=powC k (powTo p k cs) c:=by simp[powTo]
theorem Power_c (v:Value) (p:List Int) (k:Int) (w:World) (hv:Sl w 1 v (icells p)):Calls Tryz.prog 48 #[v,.int .i64 k] w (listPost (permErr p) (powL p k) w):=by
 obtain⟨A,c,rfl,hc1,hc2⟩:=hv.form
 simp only[icells_length] at hc1 hv ⊢
 have CP:=hid (fun W h=>CheckPerm_c (.slice A p.length c) p W h)
 by_cases he:permErr p=0
 ·have hPp:PermL p∧p.length≤256:=by unfold permErr at he;split at he;omega;split at he;exact⟨by assumption,by omega⟩;omega
  have HV:=hid hv
  have He:=hid he
  obtain⟨hP,hl⟩:=hPp
  have HP:=hid hP
  have hmk:=fun W=>make_ints W p.length (by omega)
  clear hv he hP
  refine(callsIn_wide (n:=4)).1 ?_
  refine callsIn_of_wp_marks Tryz.func48 rfl trivial ?_ rfl
  simp only[Tryz.ntmps48,List.size_toArray,List.length_cons,List.length_nil,Nat.reduceAdd,Nat.reduceSub,Array.replicate_succ,Array.replicate_zero,List.push_toArray,List.append_toArray,List.nil_append,List.cons_append]
  gi_wp2_with (first | (refine⟨trivial,?_⟩;gi_at_call 45;refine(callsIn_wide.2 (CP.out _ (HV.out.alloc _))).mono ?_;rintro e w1 ⟨rfl,hB1⟩;rw[He.out]) | (refine⟨trivial,?_⟩;gi_at_call 136;refine(callsIn_wide.2 (cyclesOf_c _ _ _ _)).mono ?_;rintro e w2 ⟨rfl,rfl⟩))
  have hn1:=hB1.size
  simp only[World.size_alloc] at hn1
  have hK1:Own w1 w.heap.size 3 [.int .i64 k]:=(Own.make w 3 [.int .i64 k]).below hB1 (by simp)
  have hBw1:Below w.heap.size w w1:=((Below.refl _ w).alloc (Nat.le_refl _) _).trans (hB1.mono (by simp))
  have hHV:=(HV.out.alloc (.cells #[.int .i64 k] 3)).below hB1
  clear hB1
  have hal:Below w1.heap.size w1 (((w1.alloc (.cells (icells (List.replicate p.length 0)).toArray 3)).alloc (.cells #[.slice (some ⟨w1.heap.size,0,none⟩) p.length p.length] 50)).alloc (.cells #[.slice A p.length c] 50)):=(((Below.refl _ w1).alloc (Nat.le_refl _) _).alloc (by simp) _).alloc (by simp;omega) _
  have hOs:=((Own.make w1 3 (icells (List.replicate p.length 0))).alloc (.cells #[.slice (some ⟨w1.heap.size,0,none⟩) p.length p.length] 50)).alloc (.cells #[.slice A p.length c] 50)
  have hOq:=(Own.make (w1.alloc (.cells (icells (List.replicate p.length 0)).toArray 3)) 50 [.slice (some ⟨w1.heap.size,0,none⟩) p.length p.length]).alloc (.cells #[.slice A p.length c] 50)
  have hOb:=Own.make ((w1.alloc (.cells (icells (List.replicate p.length 0)).toArray 3)).alloc (.cells #[.slice (some ⟨w1.heap.size,0,none⟩) p.length p.length] 50)) 50 [.slice A p.length c]
  simp only[World.size_alloc] at hOq hOb
  have hsl:=hHV.below hal
  have hBw:=hBw1.trans (hal.mono (by omega))
  have hKa:=hK1.below hal (by omega)
  have hsz:(((w1.alloc (.cells (icells (List.replicate p.length 0)).toArray 3)).alloc (.cells #[.slice (some ⟨w1.heap.size,0,none⟩) p.length p.length] 50)).alloc (.cells #[.slice A p.length c] 50)).heap.size=w1.heap.size+3:=by simp
  obtain⟨w3,hw3⟩:∃w3,w3=(((w1.alloc (.cells (icells (List.replicate p.length 0)).toArray 3)).alloc (.cells #[.slice (some ⟨w1.heap.size,0,none⟩) p.length p.length] 50)).alloc (.cells #[.slice A p.length c] 50)):=⟨_,rfl⟩
  rw[←hw3] at hal hOs hOq hOb hsl hsz hBw hKa ⊢
  clear hw3 hmk
  obtain⟨b0,off,hRd,hb0⟩:=RdP.ofSl (Bp:=w1.heap.size+1+1) hsl (by omega)
  have hb0w:b0=w1.heap.size+1+1∨(p≠[]∧b0<w1.heap.size):=by
   rcases hb0 with h | h
   ·exact .inl h
   ·refine .inr ⟨h,?_⟩
    obtain⟨b,o,hA,hb,_⟩:=hHV.at_ (k:=0) (by rw[icells_length];exact List.length_pos_iff.2 h)
    have h1:=(hRd.2 0 _ (icells_at p 0 (List.length_pos_iff.2 h))).1
    rw[hA] at h1
    cases h1
    exact hb
  refine range_own (gf:=191) (lb:= #[.pointer (some ⟨w1.heap.size+1+1,0,none⟩)]) (xs:=cycs p) (Pr:=PrC) (Kp:=KpC (w1.heap.size+1+1) b0) rfl (enters_of Tryz.func191 (by kernel_rfl) rfl)
   (fun W hW hs=>cycles_in p A c (w1.heap.size+1+1) b0 off HP.out hl W ((hW.cell (p:=⟨w1.heap.size+1+1,0,none⟩) (by simp;omega)).trans (hOb.cell 0)) (by omega) (hRd.same hW.size (hW.block b0 (by rcases hb0w with h | h <;> omega)))) rfl
   (fun pre A=>Own A w1.heap.size 3 (icells (powTo p k pre))∧Own A (w1.heap.size+1) 50 [.slice (some ⟨w1.heap.size,0,none⟩) p.length p.length]∧Own A w.heap.size 3 [.int .i64 k]∧Below w.heap.size w A)
   (fun pre A A' h hb=>⟨h.1.but hb (by omega),h.2.1.but hb (by omega),h.2.2.1.but hb (by omega),h.2.2.2.trans (hb.toBelow (by omega) h.2.2.2.size)⟩)
   (fun pre A l o h hl _=>⟨h.1.putObjQ (by omega) o,h.2.1.putObjQ (by omega) o,h.2.2.1.putObjQ (by omega) o,Below.putObjQ h.2.2.2 (by omega) o⟩)
   (fun A B C h k=>h.trans k) (fun A o hlt=>KpC.putObjQ _ _ _ _ A o (by omega) (by omega) (by rcases hb0w with h | h <;> omega))
   (fun x v A o hlt h=>h.putObjQ (by omega) o)
   (fun o1 o2=>⟨(hOs.alloc _).alloc _,(hOq.alloc _).alloc _,(hKa.alloc _).alloc _,(hBw.alloc (by omega) _).alloc (by simp;omega) _⟩)
   (fun v=> { tmps:= #[.slice A p.length c,.int .i64 k,undef,.pointer (some ⟨w.heap.size,0,none⟩),.slice none 0 0,.int .i64 0,.int .i64 0,.pointer (some ⟨w1.heap.size+1,0,none⟩),v,undef,undef,undef,undef,.slice A p.length c,.int .i64 0,.int .i64 0,.bool false,undef,.slice A p.length c,.int .i64 p.length,.slice (some ⟨w1.heap.size,0,none⟩) p.length p.length,.slice A p.length c,.func (.func 191) #[] #[.pointer (some ⟨w1.heap.size+1+1,0,none⟩)],v,undef,undef,undef,undef,undef,undef,undef,undef,undef,undef,undef,undef,undef,undef,undef,undef,undef,undef,undef,undef,undef,undef,undef,undef,undef,undef,undef,undef,undef],defers:=[] })
   ?assign ?body ?done
  case assign=>
   intro l v W K hK
   gi_wp2
   exact hK
  case body=>
   rintro l pre x post v A' hx ⟨hO,hQ,hK,hB⟩ hlt ⟨base,hb1,hb2,hrow,hne⟩
   obtain⟨A2,c2,rfl,hc3,hc4⟩:=oForm hrow
   have hpe:=cycs_ne hx
   have hxm:∀y∈x,0≤y∧y<p.length:=cycTo_mem p p.length x (by rw[show (cycTo p p.length).1=cycs p from rfl,hx];simp)
   have hxl:x.length≤256:=Nat.le_trans (cycTo_short p p.length x (by rw[show (cycTo p p.length).1=cycs p from rfl,hx];simp)) hl
   have hb0':b0≠w1.heap.size:=by
    rcases hb0w with h | h
    ·omega
    ·omega
   have hn0:0<x.length:=List.length_pos_iff.2 hne
   unfold maxLen at hc4
   have hnz:((x.length:Int)==0)=false:=by simp;omega
   have hnz2:(x.length:Int)≠0:=by omega
   have hkc:A'.cell? ⟨w.heap.size,0,none⟩=some (.int .i64 k):=hK.cell 0
   have hre:=rem_eq k x.length (by omega) (by omega)
   have hem:=Int.emod_nonneg k hnz2
   have hel:=Int.emod_lt_of_pos k (show (0:Int)<x.length by omega)
   obtain⟨t,ht⟩:=Int.eq_ofNat_of_zero_le hem
   have htn:t<x.length:=by omega
   have hst:powTo p k (pre++[x])=powR x t (powTo p k pre) x.length:=by rw[powTo_snoc];unfold powC;rw[ht];rfl
   have hrl:(powTo p k pre).length=p.length:=powTo_len p k pre
   rw[ht] at hre
   have HST:=hid hst
   have HO:=hid hO
   have HQ:=hid hQ
   have HK:=hid hK
   have HB:=hid hB
   have HXM:=hid hxm
   have HRW:=hid hrow
   have HRE:=hid hre
   have HRL:=hid hrl
   clear hO hQ hK hB hrow hxm hst hem hel ht hre hrl hx hne
   generalize hr0:powTo p k pre=r0 at *
   clear hr0
   gi_wp2
   rw[HRE.out]
   clear hnz hkc hnz2 HRE
   gi_loopg [35] x.length (fun gh ix wx=>∃j:Nat,ix = .int .i64 j∧j+gh=x.length∧Hid (Own wx w1.heap.size 3 (icells (powR x t r0 j)))∧Hid (But w1.heap.size A' wx))
   case atStart=>exact⟨0,rfl,by omega,HO,hid (But.refl _ _)⟩
   case round=>
    obtain⟨j,rfl,hj,hOx,hBx⟩:=hrel
    cases gk with
    | zero=>
     have hin:¬((j:Int)<(x.length:Int)):=by omega
     have hjn:j=x.length:=by omega
     subst hjn
     gi_wp2
     have hbx:=hBx.out
     have hO2:=hOx.out
     rw[←HST.out] at hO2
     exact⟨hbx.block _ (by omega) (by omega),hbx.block _ (by omega) (by omega),⟨hO2,HQ.out.but hbx (by omega),HK.out.but hbx (by omega),HB.out.trans (hbx.toBelow (by omega) HB.out.size)⟩,
      hbx.size,hbx.block _ (by omega) (by omega),hbx.block _ (by omega) (by omega),hbx.block _ (by rcases hb0w with h | h <;> omega) hb0'⟩
    | succ gh=>
     have hlt:(j:Int)<(x.length:Int):=by omega
     have hjl:j<x.length:=by omega
     have hjt:(j+t)%x.length<x.length:=Nat.mod_lt _ hn0
     obtain⟨g,rfl,hgb,hgl,hgc⟩:=oCell HRW.out hjl
     have hc1:=(World.cell?_of_block (a:=⟨g,j,none⟩) (hBx.out.block g hgl (by omega))).trans ((hgc j hjl).trans (icells_at x j hjl))
     have hc2':=(World.cell?_of_block (a:=⟨g,(j+t)%x.length,none⟩) (hBx.out.block g hgl (by omega))).trans ((hgc _ hjt).trans (icells_at x _ hjt))
     have hq:wr.cell? ⟨w1.heap.size+1,0,none⟩=some (.slice (some ⟨w1.heap.size,0,none⟩) p.length p.length):=(HQ.out.but hBx.out (by omega)).cell 0
     have hxj:=HXM.out (x[j]?.getD 0) (by rw[List.getElem?_eq_getElem hjl];exact List.getElem_mem hjl)
     have hnz2:(x.length:Int)≠0:=by omega
     have hne:¬x=[]:=List.length_pos_iff.1 hn0
     have hne2:¬x.length=0:=by omega
     have hwj:Hid (IntKind.i64.wrap ((j:Int)+(t:Int))=(j:Int)+(t:Int)):=hid (wrapI _ (by omega))
     have hpr:powR x t r0 (j+1)=(powR x t r0 j).set (x[j]?.getD 0).toNat (x[(j+t)%x.length]?.getD 0):=rfl
     have htm:((j:Int)+(t:Int)).tmod (x.length:Int)=(((j+t)%x.length:Nat):Int):=by
      rw[Int.tmod_eq_emod_of_nonneg (by omega)];simp
     generalize (j+t)%x.length=jt at *
     have hjt1:(jt:Int)<(x.length:Int):=Int.ofNat_lt.2 hjt
     have hnz:((x.length:Int)==0)=false:=beq_eq_false_iff_ne.2 hnz2
     have hOl:=hOx.out.lt
     generalize x[j]?.getD 0=y at *
     generalize x[jt]?.getD 0=z at *
     obtain⟨m,rfl⟩:=Int.eq_ofNat_of_zero_le hxj.1
     have hm:m<p.length:=by omega
     rw[Int.toNat_natCast] at hpr
     have hfr:=hOx.out.free m
     have hcm:=hOx.out.cell m
     rw[icells_at _ m (by rw[powR_len,HRL.out];exact hm)] at hcm
     generalize (powR x t r0 j)[m]?.getD 0=zz at *
     have HPR:=hid hpr
     have HTM:=hid htm
     clear hpr hxj hgc htm
     gi_wp2
     have htm:=HTM.out
     have HWJ:=hwj.out
     clear hwj
     refine wpIn_region_round (F:=Fence.wide) (by kernel_rfl) (by kernel_rfl) ?_
     refine wpAnyIn_take (i:=1) (v:= .int .i64 m) rfl rfl (by kernel_rfl) (by kernel_rfl) (by kernel_rfl) (fun _ _ _ h=>h) ⟨Or.inl ⟨by rfl,?_⟩,fun _=>rfl⟩ ?_
     ·intro w;go_simp;try exact HWJ
     refine wpAnyIn_take (i:=2) (v:= .slice (some ⟨g,0,none⟩) x.length c2) rfl rfl (by kernel_rfl) (by kernel_rfl) (by kernel_rfl) (fun _ _ _ h=>h) ⟨Or.inl ⟨by rfl,?_⟩,fun _=>rfl⟩ ?_
     ·intro w;go_simp;try exact HWJ
     refine wpAnyIn_take (i:=3) (v:= .int .i64 j) rfl rfl (by kernel_rfl) (by kernel_rfl) (by kernel_rfl) (fun _ _ _ h=>h) ⟨Or.inl ⟨by rfl,?_⟩,fun _=>rfl⟩ ?_
     ·intro w;go_simp;try exact HWJ
     refine wpAnyIn_take (i:=4) (v:= .int .i64 t) rfl rfl (by kernel_rfl) (by kernel_rfl) (by kernel_rfl) (fun _ _ _ h=>h) ⟨Or.inl ⟨by rfl,?_⟩,fun _=>rfl⟩ ?_
     ·intro w;go_simp;try exact HWJ
     refine wpAnyIn_take (i:=6) (v:= .int .i64 x.length) rfl rfl (by kernel_rfl) (by kernel_rfl) (by kernel_rfl) (fun _ _ _ h=>h) ⟨Or.inl ⟨by rfl,?_⟩,fun _=>rfl⟩ ?_
     ·intro w;go_simp;try exact HWJ
     refine wpAnyIn_take (i:=5) (v:= .int .i64 ((j:Int)+(t:Int))) rfl rfl (by kernel_rfl) (by kernel_rfl) (by kernel_rfl) (fun _ _ _ h=>h) ⟨Or.inl ⟨by rfl,?_⟩,fun _=>rfl⟩ ?_
     ·intro w;go_simp;try exact HWJ
     refine wpAnyIn_take (i:=7) (v:= .int .i64 jt) rfl rfl (by kernel_rfl) (by kernel_rfl) (by kernel_rfl) (fun _ _ _ h=>h) ⟨Or.inl ⟨by rfl,?_⟩,fun _=>rfl⟩ ?_
     ·intro w;go_simp;try exact HWJ
     refine wpAnyIn_take (i:=8) (v:= .pointer (some ⟨g,jt,none⟩)) rfl rfl (by kernel_rfl) (by kernel_rfl) (by kernel_rfl) (fun _ _ _ h=>h) ⟨Or.inl ⟨by rfl,?_⟩,fun _=>rfl⟩ ?_
     ·intro w;go_simp;try exact HWJ
     refine wpAnyIn_ready (rs:=[0,9]) (by kernel_rfl) (by simp) ?_
     refine AllReadyIn.cons rfl (fun K hK=> ?_) (AllReadyIn.cons rfl (fun K hK=> ?_) AllReadyIn.nil)
     ·go_simp;refine hK _ _ ?_;clear hK K
      refine wpAnyIn_ready (rs:=[9]) (by kernel_rfl) (by simp) ?_
      refine AllReadyIn.cons rfl (fun K hK=> ?_) AllReadyIn.nil
      go_simp;refine hK _ _ ?_;clear hK K
      refine wpAnyIn_ready (rs:=[10]) (by kernel_rfl) (by simp) ?_
      refine AllReadyIn.cons rfl (fun K hK=> ?_) AllReadyIn.nil
      go_simp;refine hK _ _ ?_;clear hK K
      refine wpAnyIn_ready (rs:=[11]) (by kernel_rfl) (by simp) ?_
      refine AllReadyIn.cons rfl (fun K hK=> ?_) AllReadyIn.nil
      go_simp;refine hK _ _ ?_;clear hK K
      refine wpAnyIn_done (by kernel_rfl) ?_ _
      gi_wp2
      have hOd:Own wr.drew w1.heap.size 3 (icells (powR x t r0 j)):=hOx.out
      have hOe:=hOd.put m (.int .i64 z)
      rw[icells_set,←HPR.out] at hOe
      have hBd:=hBx.out.drew.setCell ⟨w1.heap.size,m,none⟩ rfl (.int .i64 z)
      gi_roundg gh
      case rel=>exact⟨j+1,by go_num,by omega,hid hOe,hid hBd⟩
      case measure=>omega
     ·go_simp;refine hK _ _ ?_;clear hK K
      refine wpAnyIn_ready (rs:=[0]) (by kernel_rfl) (by simp) ?_
      refine AllReadyIn.cons rfl (fun K hK=> ?_) AllReadyIn.nil
      go_simp;refine hK _ _ ?_;clear hK K
      refine wpAnyIn_ready (rs:=[10]) (by kernel_rfl) (by simp) ?_
      refine AllReadyIn.cons rfl (fun K hK=> ?_) AllReadyIn.nil
      go_simp;refine hK _ _ ?_;clear hK K
      refine wpAnyIn_ready (rs:=[11]) (by kernel_rfl) (by simp) ?_
      refine AllReadyIn.cons rfl (fun K hK=> ?_) AllReadyIn.nil
      go_simp;refine hK _ _ ?_;clear hK K
      refine wpAnyIn_done (by kernel_rfl) ?_ _
      gi_wp2
      have hOd:Own wr.drew w1.heap.size 3 (icells (powR x t r0 j)):=hOx.out
      have hOe:=hOd.put m (.int .i64 z)
      rw[icells_set,←HPR.out] at hOe
      have hBd:=hBx.out.drew.setCell ⟨w1.heap.size,m,none⟩ rfl (.int .i64 z)
      gi_roundg gh
      case rel=>exact⟨j+1,by go_num,by omega,hid hOe,hid hBd⟩
      case measure=>omega
  case done=>
   rintro W ⟨hO,hQ,hK,hB⟩ hD
   have hcl:W.cell? ⟨w1.heap.size+1,0,none⟩=some (.slice (some ⟨w1.heap.size,0,none⟩) p.length p.length):=hQ.cell 0
   have HB:=hid hB
   have HD:=hid hD
   have HO:=hid hO
   clear hB hD hO hQ hK
   gi_wp2
   refine⟨by simp,.inl ⟨_,_,rfl,run_takeDeferred HD.out,?_⟩⟩
   refine⟨_,results_tmp2 rfl _ _ _,?_,Below.putObjQ HB.out (by omega) _⟩
   rw[if_pos He.out]
   exact⟨_,rfl,(HO.out.putObjQ (by omega) _).sl _ (by rw[icells_length,powTo_len]) (by omega)⟩
 ·have hne:(permErr p != 0)=true:=by simpa using he
  have He:=hid he
  have HV:=hid hv
  clear he hv
  go_enter Tryz.func48,Tryz.ntmps48
  go_wp2_with fail
  refine(CP.out _ (HV.out.alloc _)).mono ?_
  rintro e w1 ⟨rfl,hB1⟩
  have HB1:=hid hB1
  clear hB1 CP
  generalize hec:permErr p=ec at *
  have HEC:=hid hec
  clear hec
  go_wp2
  go_ret2
  exact⟨by rw[if_neg He.out];rfl,((Below.refl _ _).alloc (Nat.le_refl _) _).trans (HB1.out.mono (by simp))⟩
end Go.Proofs.YtneafcdfnhnpnaaGreatDoor
namespace Go.Proofs.YtneafcdfnhnpnaaGreatDoor
open Go.RowKit
def lesserUp (p:List Int) (i m:Nat):Nat:=(((p.drop (i+1)).take m).filter fun y=>decide (y<p[i]?.getD 0)).length
theorem lesserUp_le (p:List Int) (i m:Nat):lesserUp p i m≤m:=by
 unfold lesserUp
 refine Nat.le_trans (List.length_filter_le _ _) ?_
 rw[List.length_take];omega
theorem lesserUp_succ (p:List Int) (i m:Nat) (h:i+1+m<p.length):lesserUp p i (m+1)=lesserUp p i m+(if p[i+1+m]?.getD 0<p[i]?.getD 0 then 1 else 0):=by
 unfold lesserUp
 rw[take_succ_int _ m (by rw[List.length_drop];omega),List.filter_append,List.length_append,List.getElem?_drop]
 congr 1
 by_cases hy:p[i+1+m]?.getD 0<p[i]?.getD 0 <;> simp[hy]
def rankFrom (p:List Int):Nat→Nat
 | 0=>0
 | k+1=>rankFrom p k*(p.length-k)+lesserUp p k (p.length-k-1)
theorem rankFrom_lt (p:List Int) (hp:p.length≤256) (k:Nat):rankFrom p k<10^(3*k):=by
 induction k with
 | zero=>simp[rankFrom]
 | succ k ih=>
  have h1:=lesserUp_le p k (p.length-k-1)
  have h2:rankFrom p k*(p.length-k)≤rankFrom p k*256:=Nat.mul_le_mul_left _ (by omega)
  have h3:10^(3*(k+1))=10^(3*k)*1000:=by rw[Nat.mul_add,Nat.pow_add]
  show rankFrom p k*(p.length-k)+lesserUp p k (p.length-k-1)<_
  rw[h3];omega
theorem rankQ_num (n:Nat):(mkR false n 1).num.natAbs≤n:=by
 obtain⟨e1,e2⟩:=mkRat_low (n:=(n:Int)) (d:=1) (by decide) (by simp)
 unfold mkR;simp only[Bool.false_eq_true,if_false]
 rw[e1];omega
theorem rankQ_den (n:Nat):(mkR false n 1).den=1:=by
 obtain⟨e1,e2⟩:=mkRat_low (n:=(n:Int)) (d:=1) (by decide) (by simp)
 unfold mkR;simp only[Bool.false_eq_true,if_false]
 exact e2
def rankPost (p:List Int) (w:World) (e:Ending) (w':World):Prop:=
 (if permErr p=0 then e=writeEnd (mkR false (rankFrom p p.length) 1) else e = .returned (.tuple #[.string ⟨#[]⟩,.int .i64 (permErr p)]))∧Below w.heap.size w w'
theorem Rank_c (v:Value) (p:List Int) (w:World) (hv:Sl w 1 v (icells p)) (hG:Glob w) (hD:OkLen (3*p.length)):
  Calls Tryz.prog 58 #[v] w (rankPost p w):=by
 obtain⟨A,c,rfl,hc1,hc2⟩:=hv.form
 simp only[icells_length] at hc1 hv ⊢
 have HD:=Lib.hid hD
 clear hD
 have CP:=Lib.hid (fun W h=>CheckPerm_c (.slice A p.length c) p W h)
 by_cases he:permErr p=0
 ·have hPl:p.length≤256:=by have:=he;unfold permErr at this;split at this;omega;split at this;omega;omega
  have He:=Lib.hid he
  clear he
  go_enter Tryz.func58,Tryz.ntmps58
  go_wp2_with fail
  refine(CP.out _ hv).mono ?_
  rintro e w1 ⟨rfl,hB1⟩
  rw[He.out]
  go_wp2_with fail
  go_loopg [5,6,7,8,10,18] p.length (fun g r _ _ _ _ i wr=>∃(k:Nat),k+g=p.length∧i = .int .i64 k∧Hid (Nt wr r (rankFrom p k))∧Below w.heap.size w wr)
  case atStart=>exact⟨0,by omega,rfl,Lib.hid Nt.nil,hB1⟩
  case round=>
   clear hB1
   obtain⟨k,hk,rfl,hN,hB⟩:=hrel
   cases gk with
   | zero=>
    have hkn:k=p.length:=by omega
    rw[hkn] at hN
    have hlt:=rankFrom_lt p hPl p.length
    have hfit:=Lib.hid (Fits.of_pow hlt HD.out (by omega))
    clear hlt hk
    subst hkn
    obtain⟨A2,rn,rc,rfl,_⟩:=hN.out.size_
    have hone:=Nt.one wr 148
    have hN1:=Lib.hid (Rt.mk_ (neg:=false) (by decide) (by simp) (by simp) (hN.out.below ((Below.refl _ _).alloc (Nat.le_refl _) (.cells #[.int .u64 1] 148))) hone)
    have hBw:=hB.alloc hB.size (.cells #[.int .u64 1] 148)
    have hGw:=hG.below hBw
    clear hone
    go_wp2_with fail
    refine(write_c _ _ _ hN1.out (Fits.le hfit.out (rankQ_num _)) (Fits.small (by rw[rankQ_den];decide)) hGw).mono ?_
    rintro e w4 ⟨he,hB4⟩
    have hBt:=hBw.trans (hB4.mono hBw.size)
    have Hif:Hid (∀e,e=writeEnd (mkR false (rankFrom p p.length) 1)→rankPost p w e w4):=fun e he=>⟨by rw[if_pos He.out];exact he,hBt⟩
    obtain⟨s,c,hs⟩:=writeEnd_form (mkR false (rankFrom p p.length) 1)
    rw[hs] at he Hif
    subst he
    clear hs
    go_wp2
    go_ret2
    exact Hif.out _ rfl
   | succ g=>
    have hlt:k<p.length:=by omega
    obtain⟨b1,off1,rfl,hbb1,hcell1⟩:=hv.at_ (k:=k) (by rw[icells_length];omega)
    have hck1:=(hB.cell (p:=⟨b1,off1+k,none⟩) hbb1).trans ((hcell1 k (by rw[icells_length];omega)).trans (icells_at p k hlt))
    have HC:=Lib.hid (fun (wx:World) (j:Nat) (hb:Below w.heap.size w wx) (hj:j<p.length)=>(hb.cell (p:=⟨b1,off1+j,none⟩) hbb1).trans ((hcell1 j (by rw[icells_length];omega)).trans (icells_at p j hj)))
    have Hs:=Lib.hid (fun m h=>lesserUp_succ p k m h)
    have Hk:Hid (k+(g+1)=p.length):=Lib.hid hk
    have TP:=Lib.hid (fun u wx (h:Nt wx u (rankFrom p k))=>timesPlus_c u _ (p.length-k) (lesserUp p k (p.length-k-1)) wx h (by unfold WB;omega) (by have:=lesserUp_le p k (p.length-k-1);unfold WB;omega) (Fits.of_pow (rankFrom_lt p hPl k) (HD.out.le (by omega)) (by omega)))
    have hl1:(p.length:Int)-((k:Int)+1)=((p.length-k-1:Nat):Int):=by omega
    clear hcell1
    obtain⟨A2,rn,rc,rfl,_⟩:=hN.out.size_
    generalize hx:p[k]?.getD 0=x at *
    have hl2:(p.length:Int)-(k:Int)=((p.length-k:Nat):Int):=by omega
    have HX:Hid (p[k]?.getD 0=x):=Lib.hid hx
    clear hx hv hl1 hk
    rcases Decidable.em (c=k+1) with rfl | hcc
    all_goals (
     go_wp2_with fail
     go_loopg [8,10,28] (p.length-k-1) (fun h l _ i wx=>∃m:Nat,m+h=p.length-k-1∧l = .int .i64 (lesserUp p k m)∧i = .int .i64 m∧Hid (Nt wx (.slice A2 rn rc) (rankFrom p k))∧Below w.heap.size w wx)
     case atStart=>exact⟨0,by omega,by simp[lesserUp],rfl,hN,hB⟩
     case round=>
      clear hN hB hck1
      obtain⟨m,hm,rfl,rfl,hNx,hBx⟩:=hrel
      cases gk with
      | zero=>
       have hmm:m=p.length-k-1:=by omega
       have hin:¬((m:Int)<((p.length-(k+1):Nat):Int)):=by omega
       have TPx:=Lib.hid (TP.out _ _ hNx.out)
       rw[←hmm] at TPx
       have hll:lesserUp p k m≤256:=by have:=lesserUp_le p k m;omega
       have Hst:Hid (rankFrom p (k+1)=rankFrom p k*(p.length-k)+lesserUp p k m):=Lib.hid (by rw[hmm];rfl)
       have hpk:p.length-k≤256:=by omega
       clear hm hmm
       generalize lesserUp p k m=lu at *
       go_wp2_with (go_at_call 138;refine TPx.out.mono ?_;rintro e w5 ⟨u,rfl,hNu,hB5⟩;rw[←Hst.out] at hNu;have HNu:=Lib.hid hNu;clear hNu)
       go_roundg g
       case rel=>exact⟨k+1,by have:=Hk.out;omega,by go_num,HNu,hBx.trans (hB5.mono hBx.size)⟩
       case measure=>omega
      | succ h=>
       have hin:((m:Int)<((p.length-(k+1):Nat):Int)):=by omega
       have hck:=HC.out _ (k+1+m) hBx (by omega)
       have hle:=lesserUp_le p k m
       have Hs2:=Hs.out m (by omega)
       have Hm:=Lib.hid hm
       have hadd:off1+(k+1)+m=off1+(k+1+m):=by omega
       generalize p[k+1+m]?.getD 0=y at *
       by_cases hyx:y<x
       ·rw[if_pos hyx] at Hs2
        have HS:=Lib.hid Hs2
        clear Hs2 hm
        generalize lesserUp p k m=lu at *
        go_wp2
        all_goals (
         go_roundg h
         case rel=>exact⟨m+1,by have:=Hm.out;omega,by rw[HS.out];rfl,by go_num,hNx,hBx⟩
         all_goals omega)
       ·rw[if_neg hyx] at Hs2
        have HS:=Lib.hid Hs2
        clear Hs2 hm
        generalize lesserUp p k m=lu at *
        go_wp2
        all_goals (
         go_roundg h
         case rel=>exact⟨m+1,by have:=Hm.out;omega,by rw[HS.out];rfl,by go_num,hNx,hBx⟩
         all_goals omega))
 ·have hb:(permErr p != 0)=true:=by simpa using he
  have Hne:=Lib.hid he
  clear he
  generalize hE:permErr p=E at *
  have HE:=Lib.hid hE
  have Hres:Hid (∀e w',e = .returned (.tuple #[.string ⟨#[]⟩,.int .i64 E])→Below w.heap.size w w'→rankPost p w e w'):=Lib.hid (fun e w' h1 h2=>⟨by rw[HE.out,if_neg Hne.out];exact h1,h2⟩)
  clear hE
  go_enter Tryz.func58,Tryz.ntmps58
  go_wp2_with fail
  refine(CP.out _ hv).mono ?_
  rintro e w1 ⟨rfl,hB1⟩
  go_wp2
  go_ret2
  exact Hres.out _ _ rfl hB1
end Go.Proofs.YtneafcdfnhnpnaaGreatDoor
