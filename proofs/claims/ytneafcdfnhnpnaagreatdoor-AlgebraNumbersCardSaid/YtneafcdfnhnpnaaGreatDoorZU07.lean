/- Contract: clearFirst over the residues. -/
import Derived.Test.YtneafcdfnhnpnaaGreatDoorZU06
import Derived.Deep.RegionHeld3
import Derived.Deep.DeepCutAuto
import Derived.Deep.RegionWith
import Derived.Deep.LoopGhost
import Derived.WalkMore
import Derived.Lib.Hide
import Derived.Laws.AppendOwn
set_option maxRecDepth 100000
set_option maxHeartbeats 4000000
namespace Go.Proofs.YtneafcdfnhnpnaaGreatDoor
open Go.RowKit
def zipFrom (g:Int→Int→Int) (o k:Nat) (L:List Int) (o2:Nat) (P:List Int):List Int:=L.mapIdx fun j y=>if o≤j∧j<o+k then g y (P[o2+(j-o)]?.getD 0) else y
section
variable (g:Int→Int→Int) (o k:Nat) (L:List Int) (o2:Nat) (P:List Int)
theorem zipFrom_length:(zipFrom g o k L o2 P).length=L.length:=by simp[zipFrom]
theorem zipFrom_zero:zipFrom g o 0 L o2 P=L:=by
 apply List.ext_getElem?
 intro j
 simp only[zipFrom,List.getElem?_mapIdx,Nat.add_zero]
 cases L[j]? with
 | none=>rfl
 | some x=>simp only[Option.map_some];rw[if_neg (by omega)]
theorem zipFrom_at:(zipFrom g o k L o2 P)[o+k]? =L[o+k]? :=by
 simp only[zipFrom,List.getElem?_mapIdx,Nat.lt_irrefl,and_false,if_false]
 cases L[o+k]? <;> simp
theorem zipFrom_succ (h:o+k<L.length):(zipFrom g o k L o2 P).set (o+k) (g (L[o+k]?.getD 0) (P[o2+k]?.getD 0))=zipFrom g o (k+1) L o2 P:=by
 apply List.ext_getElem?
 intro j
 rw[List.getElem?_set]
 simp only[zipFrom,List.getElem?_mapIdx,List.length_mapIdx]
 by_cases hj:o+k=j
 ·subst hj;simp[h,Nat.add_sub_cancel_left]
 ·rw[if_neg hj]
  rcases Nat.lt_or_ge j L.length with hl | hl
  ·rw[List.getElem?_eq_getElem hl]
   simp only[Option.map_some,Option.some.injEq]
   by_cases h2:o≤j∧j<o+k
   ·rw[if_pos h2,if_pos (by omega)]
   ·rw[if_neg h2,if_neg (by omega)]
  ·rw[List.getElem?_eq_none hl];rfl
theorem zipFrom_same (h:o+k<L.length) (hf:g (L[o+k]?.getD 0) (P[o2+k]?.getD 0)=L[o+k]?.getD 0):zipFrom g o (k+1) L o2 P=zipFrom g o k L o2 P:=by
 rw[←zipFrom_succ g o k L o2 P h,hf]
 apply List.ext_getElem?
 intro j
 rw[List.getElem?_set,zipFrom_length]
 by_cases hj:o+k=j
 ·subst hj;rw[zipFrom_at];simp[h]
 ·rw[if_neg hj]
end
def subI (p f y x:Int):Int:=if x=0 then y else (y-f*x%p)%p
def clearI (p:Int) (o n:Nat) (L:List Int) (o2:Nat) (P:List Int):List Int:=if L[o]?.getD 0=0 then L else zipFrom (subI p (L[o]?.getD 0)) o n L o2 P
theorem minus_nil (p:Int) (w:World):(nilAhead 444 197 (.agg #[.int .i64 p]) "talisman/algebra.minus").run Tryz.prog w = .ok (some false) w:=by kernel_rfl
theorem isZero_nil (p:Int) (w:World):(nilAhead 444 197 (.agg #[.int .i64 p]) "talisman/algebra.isZero").run Tryz.prog w = .ok (some false) w:=by kernel_rfl
theorem But.drew {g:Nat} {a b:World} (h:But g a b):But g a b.drew:=⟨h.os,h.tape,h.output,h.size,h.block⟩
theorem But.dr {a b:World} (h:Below a.drew.heap.size a.drew b):Below a.heap.size a b:=⟨h.os,h.tape,h.output,h.size,h.block⟩
theorem clearI_c (p:Int) (w:World) (b o n c b2 o2 c2:Nat) (L P:List Int) (hO:Own w b 2 (icells L)) (hQ:Own w b2 2 (icells P)) (hbb:b2≠b) (hn0:0<n) (hn:o+n=L.length) (hn2:o2+n=P.length) (hc1:n≤c) (hc2:c≤1000000) (hd1:n≤c2) (_hd2:c2≤1000000)
  (hp:PF p) (hL:∀x∈L,0≤x∧x<p) (hP:∀x∈P,0≤x∧x<p):
  Calls Tryz.prog 213 #[.iface 197 (.agg #[.int .i64 p]),.slice (some ⟨b,o,none⟩) n c,.slice (some ⟨b2,o2,none⟩) n c2] w fun e w'=>
   e = .returned (.tuple #[])∧Own w' b 2 (icells (clearI p o n L o2 P))∧But b w w':=by
 have hZ:=isZero_meth p
 have hM:=minus_meth p
 have hT:=times_meth p
 have hmn:=minus_nil p
 have hmf:∀(fn:Fn) (first cap:Array Value) (w:World),(Instr.makeFunc fn first cap).run Tryz.prog w = .ok (.func fn first cap) w:=fun _ _ _ _=>rfl
 have HZ:=Lib.hid (fun (x:Int) W=>resIsZero_c p x W)
 have hp1:=hp.1
 have hp2:=hp.2.1
 have HT:=Lib.hid (fun (x y:Int) W hx hy=>resTimes_c p x y W (by omega) hp2 hx hy)
 have HM:=Lib.hid (fun (x y:Int) W hx hy=>resMinus_c p x y W (by omega) hp2 hx hy)
 have HL:=Lib.hid hL
 have HP:=Lib.hid hP
 have Hn:=Lib.hid hn
 have Hn2:=Lib.hid hn2
 have hb:b<w.heap.size:=hO.lt
 have hck:=(hO.cell o).trans (icells_at _ o (by omega))
 have hf:=hL (L[o]?.getD 0) (by rw[List.getElem?_eq_getElem (by omega)];exact List.getElem_mem (by omega))
 have hfr0:=hO.free o
 have HC:=Lib.hid (rfl:clearI p o n L o2 P=clearI p o n L o2 P)
 conv at HC=>rhs;rhs;unfold clearI
 clear hp hL hP
 generalize hf0:L[o]?.getD 0=f at *
 clear hf0
 by_cases h0:(f==0)=true
 ·have HC':=Lib.hid (HC.out.trans (if_pos (by simpa using h0)))
  clear hn hn2 HC
  go_enter Tryz.func213,Tryz.ntmps213
  go_wp2_with fail
  refine(HZ.out _ _).mono ?_
  rintro e w2 ⟨rfl,hB2⟩
  have hO2:=hO.below hB2 hO.lt
  have hB:=But.of_below (g:=b) hB2
  clear hck hfr0 hO hQ hB2
  go_wp2
  (try simp only[Exit.inBlock,Exit.then]);refine bodyPost_ret (results_none rfl _ _ _) rfl ?_
  exact⟨rfl,by rw[HC'.out];exact hO2,hB⟩
 ·have h0':(f==0)=false:=by simpa using h0
  have HC':=Lib.hid (HC.out.trans (if_neg (by simpa using h0)))
  have hstart:Own w b 2 (icells (zipFrom (subI p f) o 0 L o2 P)):=by rw[zipFrom_zero];exact hO
  clear hn hn2 HC h0 hO
  go_enter Tryz.func213,Tryz.ntmps213
  go_wp2_with fail
  refine(HZ.out _ _).mono ?_
  rintro e w2 ⟨rfl,hB2⟩
  have hst:=hstart.below hB2 hb
  have hB0:=But.of_below (g:=b) hB2
  have hQ2:=hQ.below hB2 hQ.lt
  clear hck hfr0 hB2 hstart hQ
  go_wp2_with fail
  go_loopw [7,8,17] (fun _ _ i wr=>∃(k:Nat),i = .int .i64 k∧k≤n∧Own wr b 2 (icells (zipFrom (subI p f) o k L o2 P))∧Own wr b2 2 (icells P)∧But b w wr) (fun _ _ i _=>n-(intOf i).toNat)
  case atStart=>exact⟨0,rfl,by omega,hst,hQ2,hB0⟩
  case round=>
   clear hst hB0 hQ2
   obtain⟨k,rfl,hk,hO,hQ,hB⟩:=hrel
   by_cases hlt:k<n
   ·have hck1:=(hQ.cell (o2+k)).trans (icells_at _ (o2+k) (by have:=Hn2.out;omega))
    have hck2:=(hO.cell (o+k)).trans (icells_at _ (o+k) (by rw[zipFrom_length];have:=Hn.out;omega))
    rw[zipFrom_at] at hck2
    have hfr:=hO.free (o+k)
    have hx:=HP.out (P[o2+k]?.getD 0) (by have:=Hn2.out;rw[List.getElem?_eq_getElem (by omega)];exact List.getElem_mem (by omega))
    have hy:=HL.out (L[o+k]?.getD 0) (by have:=Hn.out;rw[List.getElem?_eq_getElem (by omega)];exact List.getElem_mem (by omega))
    have Hsame:=Lib.hid (zipFrom_same (subI p f) o k L o2 P (by have:=Hn.out;omega))
    have Hsucc:=Lib.hid (zipFrom_succ (subI p f) o k L o2 P (by have:=Hn.out;omega))
    generalize P[o2+k]?.getD 0=x at *
    generalize L[o+k]?.getD 0=y at *
    by_cases h1:(x==0)=true
    ·have Hs:=Lib.hid (Hsame.out (by unfold subI;rw[if_pos (by simpa using h1)]))
     go_wp2_with fail
     refine(HZ.out _ _).mono ?_
     rintro e w3 ⟨rfl,hB2⟩
     have hB':=hB.below hB2
     have hO':=hO.below hB2 hO.lt
     have hQ':=hQ.below hB2 hQ.lt
     clear hck1 hck2 hfr hO hB hQ hx hB2
     go_wp2
     refine⟨⟨k+1,by go_num,by omega,?_,hQ',hB'⟩,by simp[intOf];omega⟩
     rw[Hs.out];exact hO'
    ·have h1':(x==0)=false:=by simpa using h1
     have Hv:=Lib.hid (show subI p f y x=(y-f*x)%p by unfold subI;rw[if_neg (by simpa using h1)];simp)
     clear h1
     go_wp2_with fail
     refine(HZ.out _ _).mono ?_
     rintro e w3 ⟨rfl,hB2⟩
     have hB':=hB.below hB2
     have hO':=hO.below hB2 hO.lt
     have hQ':=hQ.below hB2 hQ.lt
     have hb3:=hO'.lt
     have hc3:w3.cell? ⟨b,o+k,none⟩=some (.int .i64 y):=(hB2.cell (p:=⟨b,o+k,none⟩) hO.lt).trans hck2
     have hf3:w3.frozen? ⟨b,o+k,none⟩=false:=(hB2.frozen (p:=⟨b,o+k,none⟩) hO.lt).trans hfr
     have hm:=Lib.hid <| And.intro (Int.emod_nonneg (f*x) (show p≠0 by omega)) (Int.emod_lt_of_pos (f*x) (show 0<p by omega))
     have Hx:=Lib.hid hx
     have Hy:=Lib.hid hy
     have Hf:=Lib.hid hf
     clear hck1 hck2 hfr hO hB hQ hB2 hx hy
     go_wp2
     go_region_with (first
       | (go_at_call 323;go_split_ands;refine(HT.out f x _ Hf.out Hx.out).mono ?_;rintro e w4 ⟨rfl,hB4⟩;have hc4:=(hB4.cell (p:=⟨b,o+k,none⟩) hb3).trans hc3;have hf4:=(hB4.frozen (p:=⟨b,o+k,none⟩) hb3).trans hf3;have hb4:b<w4.heap.size:=Nat.lt_of_lt_of_le hb3 hB4.size)
       | (go_at_call 320;go_split_ands;refine(HM.out y (f*x%p) _ Hy.out hm.out).mono ?_;rintro e w5 ⟨rfl,hB5⟩;have hc5:=(hB5.cell (p:=⟨b,o+k,none⟩) hb4).trans hc4;have hf5:=(hB5.frozen (p:=⟨b,o+k,none⟩) hb4).trans hf4))
     all_goals (
      have hB5':=((hB'.drew.trans (But.of_below hB4)).below hB5)
      have hO5:=(hO'.below (But.dr hB4) hb3).below hB5 hb4
      have hQ5:=(hQ'.below (But.dr hB4) hQ'.lt).below hB5 (Nat.lt_of_lt_of_le hQ'.lt hB4.size)
      clear hB4 hB5 hB' hO' hQ' hc3 hf3 hc4 hf4 hc5 hf5
      go_wp2
      refine⟨⟨k+1,by go_num,by omega,?_,hQ5.other (fun h=>hbb h) _,hB5'.setCell _ rfl _⟩,by simp[intOf];omega⟩
      rw[←Hsucc.out,Hv.out,←icells_set];exact hO5.put _ _)
   ·have hkk:k=n:=by omega
    subst hkk
    go_wp2
    go_end0
    exact⟨rfl,by rw[HC'.out];exact hO,hB⟩
abbrev RowI:=Nat×Nat×List Int
def rowV (n:Nat) (r:RowI):Value:= .slice (some ⟨r.1,0,none⟩) n r.2.1
structure MxI (w:World) (g:Nat) (R:List RowI) (n:Nat):Prop where
 own:Own w g 192 (R.map (rowV n))
 row:∀r∈R,Own w r.1 2 (icells r.2.2)∧r.2.2.length=n∧n≤r.2.1∧r.2.1≤1000000
 apart:(R.map (·.1)).Nodup
theorem Own.apart {w:World} {g h:Nat} {s t:TypeId} {cs ds:List Value} (a:Own w g s cs) (b:Own w h t ds) (hst:s≠t):g≠h:=by
 intro e;subst e
 unfold Own at a b
 rw[a] at b
 injection b with b
 injection b with _ b
 exact hst b
theorem MxI.below {w w':World} {g:Nat} {R:List RowI} {n:Nat} (h:MxI w g R n) (hb:Below w.heap.size w w'):MxI w' g R n:=
 ⟨h.own.below hb h.own.lt,fun r hr=>⟨(h.row r hr).1.below hb (h.row r hr).1.lt,(h.row r hr).2⟩,h.apart⟩
theorem MxI.cellRow {w:World} {g:Nat} {R:List RowI} {n:Nat} (h:MxI w g R n) {i:Nat} {r:RowI} (hr:R[i]? =some r):w.cell? ⟨g,i,none⟩=some (rowV n r):=by
 rw[h.own.cell i,List.getElem?_map,hr];rfl
theorem MxI.cellNum {w:World} {g:Nat} {R:List RowI} {n:Nat} (h:MxI w g R n) {i j:Nat} {r:RowI} (hr:R[i]? =some r) (hj:j<n):w.cell? ⟨r.1,j,none⟩=some (.int .i64 (r.2.2[j]?.getD 0)):=by
 have:=h.row r (List.mem_of_getElem? hr)
 exact(this.1.cell j).trans (icells_at _ _ (by omega))
theorem widthI_c (g c n:Nat) (R:List RowI) (w:World) (hM:MxI w g R n):
  Calls Tryz.prog 215 #[.slice (some ⟨g,0,none⟩) R.length c] w fun e w'=>e = .returned (.int .i64 ((if R=[] then 0 else n:Nat):Int))∧w=w':=by
 rcases R with _ | ⟨r,R⟩
 ·go_enter Tryz.func215,Tryz.ntmps215
  go_wp2
  go_ret
  exact⟨rfl,rfl⟩
 ·have hck:=hM.cellRow (i:=0) (r:=r) rfl
  have hl:((((r::R).length:Nat):Int)==0)=false:=by simp;omega
  unfold rowV at hck
  have hpos:0<(r::R).length:=by simp
  clear hM
  generalize (r::R).length=m at *
  go_enter Tryz.func215,Tryz.ntmps215
  go_wp2
  go_ret
  exact⟨rfl,rfl⟩
def numI (R:List RowI) (i j:Nat):Int:=((R[i]?.map (·.2.2)).getD [])[j]?.getD 0
theorem numI_eq {R:List RowI} {i j:Nat} {r:RowI} (hr:R[i]? =some r):numI R i j=r.2.2[j]?.getD 0:=by unfold numI;rw[hr];rfl
def Clean (R:List RowI) (t a c:Nat):Prop:=∀j,a≤j→j<c → ∀i,t≤i→i<R.length→numI R i j=0
def pivPost (R:List RowI) (n top from_:Nat) (w:World) (e:Ending) (w':World):Prop:=
 Below w.heap.size w w'∧((∃i j:Nat,e = .returned (.tuple #[.int .i64 i,.int .i64 j,.bool true])∧top≤i∧i<R.length∧from_≤j∧j<n∧numI R i j≠0∧(∀k,top≤k→k<i→numI R k j=0)∧Clean R top from_ j)
  ∨ (∃i j:Int,e = .returned (.tuple #[.int .i64 i,.int .i64 j,.bool false])∧Clean R top from_ n))
theorem nextPivotI_c (p:Int) (g c n:Nat) (R:List RowI) (w:World) (top from_:Nat) (hM:MxI w g R n) (hR:R≠[]) (hc:R.length≤c) (hc2:c≤1000000) (ht:top≤R.length) (hf:from_≤n) (hn:n≤1000000):
  Calls Tryz.prog 211 #[.iface 197 (.agg #[.int .i64 p]),.slice (some ⟨g,0,none⟩) R.length c,.int .i64 top,.int .i64 from_] w (pivPost R n top from_ w):=by
 have hZ:=isZero_meth p
 have hZn:=isZero_nil p
 have hmf:∀(fn:Fn) (first cap:Array Value) (w:World),(Instr.makeFunc fn first cap).run Tryz.prog w = .ok (.func fn first cap) w:=fun _ _ _ _=>rfl
 have HZ:=Lib.hid (fun (x:Int) W=>resIsZero_c p x W)
 have HW:=Lib.hid (fun W (h:MxI W g R n)=>by have:=widthI_c g c n R W h;rw[if_neg hR] at this;exact this)
 have HR:=Lib.hid hR
 have HM:=Lib.hid hM
 clear hR hM
 go_enter Tryz.func211,Tryz.ntmps211
 go_wp2_with fail
 go_step3
 go_wp2_with fail
 try go_step3
 try go_wp2_with fail
 go_loopg [8,9,10] (n-from_) (fun gh r j f wr=>∃(rr:Int) (k:Nat),r = .int .i64 rr∧j = .int .i64 k∧f = .bool false∧from_≤k∧k+gh=n∧Hid (Clean R top from_ k)∧Hid (MxI wr g R n)∧Below w.heap.size w wr)
 case atStart=>exact⟨0,from_,rfl,rfl,rfl,by omega,by omega,Lib.hid (fun j h1 h2=>by omega),HM,Below.refl _ _⟩
 case round=>
  clear HM
  obtain⟨rr,k,rfl,rfl,rfl,hk1,hk2,hC,hMr,hB⟩:=hrel
  cases gk with
  | zero=>
   have hkn:k=n:=by omega
   subst hkn
   go_wp2_with (go_at_call 215;refine(HW.out _ hMr.out).mono ?_;rintro e w2 ⟨rfl,rfl⟩)
   rw[Exit.noGoto_ret]
   go_ret3
   exact⟨hB,Or.inr ⟨_,_,rfl,hC.out⟩⟩
  | succ gh=>
   have hlt:k<n:=by omega
   go_wp2_with (go_at_call 215;refine(HW.out _ hMr.out).mono ?_;rintro e w2 ⟨rfl,rfl⟩)
   go_loopg [8,10] (R.length-top) (fun h r f wx=>∃i:Nat,r = .int .i64 i∧f = .bool false∧top≤i∧i+h=R.length∧Hid (∀t,top≤t→t<i→numI R t k=0)∧Hid (MxI wx g R n)∧Below w.heap.size w wx)
   case atStart=>exact⟨top,rfl,rfl,by omega,by omega,Lib.hid (fun t h1 h2=>by omega),hMr,hB⟩
   case round=>
    clear hMr hB
    obtain⟨i,rfl,rfl,hi1,hi2,hT,hMx,hBx⟩:=hrel
    cases gk with
    | zero=>
     have hin:¬((i:Int)<(R.length:Int)):=by omega
     have hie:i=R.length:=by omega
     have HT:=Lib.hid hT.out
     rw[hie] at HT
     have Hcl:Hid (Clean R top from_ (k+1)):=Lib.hid (by
      intro j h1 h2 t h3 h4
      rcases Nat.lt_or_ge j k with h5 | h5
      ·exact hC.out j h1 h5 t h3 h4
      ·have:j=k:=by omega
       subst this;exact HT.out t h3 h4)
     clear hie
     go_wp2
     go_roundg gh
     case rel=>exact⟨i,k+1,rfl,by go_num,rfl,by omega,by omega,Hcl,hMx,hBx⟩
     case measure=>omega
    | succ h=>
     have hin:(i:Int)<(R.length:Int):=by omega
     have hil:i<R.length:=by omega
     obtain⟨r,hr⟩:∃r,R[i]? =some r:=⟨R[i],List.getElem?_eq_getElem hil⟩
     have hc1:=hMx.out.cellRow hr
     have hc3:=hMx.out.cellNum hr hlt
     have hcap:=(hMx.out.row r (List.mem_of_getElem? hr)).2.2
     have hblk:=(hMx.out.row r (List.mem_of_getElem? hr)).1.lt
     have Hnum:=Lib.hid (numI_eq (j:=k) hr)
     unfold rowV at hc1
     obtain⟨rb,rc,rl⟩:=r
     dsimp only at hc1 hc3 hcap hblk Hnum
     have Hr:=Lib.hid hr
     clear hr
     generalize rl[k]?.getD 0=x at *
     go_wp2
     have HMr:=Lib.hid (fun (w4:World) (hb:Below wr.drew.heap.size wr.drew w4)=>(hMx.out.below (But.dr hb)))
     have HBr:=Lib.hid (fun (w4:World) (hb:Below wr.drew.heap.size wr.drew w4)=>(hBx.trans ((But.dr hb).mono hBx.size)))
     by_cases h0:(x==0)=true
     ·have Hnext:Hid (∀t,top≤t→t<i+1→numI R t k=0):=Lib.hid (by
       intro t h1 h2
       rcases Nat.lt_or_ge t i with h3 | h3
       ·exact hT.out t h1 h3
       ·have:t=i:=by omega
        subst this;rw[Hnum.out];simpa using h0)
      go_region_with (go_at_call 319;go_split_ands;refine(HZ.out x _).mono ?_;rintro e w4 ⟨rfl,hB4⟩)
      all_goals (
       have HM4:=Lib.hid (HMr.out _ hB4)
       have HB4:=HBr.out _ hB4
       clear hB4
       go_wp2
       go_roundg h
       case rel=>exact⟨i+1,by go_num,rfl,by omega,by omega,Hnext,HM4,HB4⟩
       case measure=>omega)
     ·have h0':(x==0)=false:=by simpa using h0
      have Hx:Hid (numI R i k≠0):=Lib.hid (by rw[Hnum.out];simpa using h0)
      clear h0
      go_region_with (go_at_call 319;go_split_ands;refine(HZ.out x _).mono ?_;rintro e w4 ⟨rfl,hB4⟩)
      all_goals (
       have HB4:=HBr.out _ hB4
       clear hB4
       go_wp2
       rw[Exit.noGoto_ret]
       go_ret3
       exact⟨HB4,Or.inl ⟨i,k,rfl,hi1,hil,hk1,hlt,Hx.out,fun t h1 h2=>hT.out t h1 h2,hC.out⟩⟩)
end Go.Proofs.YtneafcdfnhnpnaaGreatDoor
namespace Go.Proofs.YtneafcdfnhnpnaaGreatDoor
structure Fd (T:Type) where
 z:T
 isZ:T→Bool
 sub:T→T→T
 mul:T→T→T
 div:T→T→T
abbrev RowT (T:Type):=Nat×Nat×List T
section
variable {T:Type} (F:Fd T)
def rowOf (R:List (RowT T)) (i:Nat):List T:=(R[i]?.map (·.2.2)).getD []
def numT (R:List (RowT T)) (i j:Nat):T:=(rowOf R i)[j]?.getD F.z
def setRow (R:List (RowT T)) (i:Nat) (L:List T):List (RowT T):=R.modify i fun r=>(r.1,r.2.1,L)
def swapR {α:Type} (R:List α) (i j:Nat):List α:=
 match R[i]?,R[j]? with
 | some a,some b=>(R.set i b).set j a
 | _,_=>R
def divRow (d:T) (o:Nat) (L:List T):List T:=L.mapIdx fun j x=>if o≤j then (if F.isZ x=true then x else F.div x d) else x
def clrRow (o:Nat) (L P:List T):List T:=
 if F.isZ (L[o]?.getD F.z)=true then L else L.mapIdx fun j y=>if o≤j then (if F.isZ (P[j]?.getD F.z)=true then y else F.sub y (F.mul (L[o]?.getD F.z) (P[j]?.getD F.z))) else y
def clrTo (top o:Nat) (P:List T) (R:List (RowT T)) (k:Nat):List (RowT T):=R.mapIdx fun i r=>if i<k∧i≠top then (r.1,r.2.1,clrRow F o r.2.2 P) else r
def firstRow (R:List (RowT T)) (j:Nat):Nat→Nat→Option Nat
 | 0,_=>none
 | k+1,i=>if F.isZ (numT F R i j)=true then firstRow R j k (i+1) else some i
def pivF (R:List (RowT T)) (top:Nat):Nat→Nat→Option (Nat×Nat)
 | 0,_=>none
 | k+1,j=>match firstRow F R j (R.length-top) top with
  | some i=>some (i,j)
  | none=>pivF R top k (j+1)
structure ElS (T:Type) where
 rows:List (RowT T)
 cols:List Nat
 piv:List T
 odd:Bool
def elSwap (row:Nat) (S:ElS T):List (RowT T):=if row=S.cols.length then S.rows else swapR S.rows row S.cols.length
def elPiv (row col:Nat) (S:ElS T):T:=numT F (elSwap row S) S.cols.length col
def elDiv (row col:Nat) (S:ElS T):List (RowT T):=setRow (elSwap row S) S.cols.length (divRow F (elPiv F row col S) col (rowOf (elSwap row S) S.cols.length))
def elStep (row col:Nat) (S:ElS T):ElS T:=
 ⟨clrTo F S.cols.length col (rowOf (elDiv F row col S) S.cols.length) (elDiv F row col S) (elDiv F row col S).length,S.cols++[col],S.piv++[elPiv F row col S],if row=S.cols.length then S.odd else !S.odd⟩
def elGo (n:Nat):Nat→Nat→ElS T→ElS T
 | 0,_,S=>S
 | k+1,from_,S=>match pivF F S.rows S.cols.length (n-from_) from_ with
  | none=>S
  | some (row,col)=>elGo n k (col+1) (elStep F row col S)
end
section
variable {T:Type} {F:Fd T} {R:List (RowT T)}
theorem firstRow_some {j i:Nat} (k s:Nat) (h1:s≤i) (h2:i<s+k) (h3:F.isZ (numT F R i j)=false) (h4:∀t,s≤t→t<i→F.isZ (numT F R t j)=true):firstRow F R j k s=some i:=by
 induction k generalizing s with
 | zero=>omega
 | succ k ih=>
  unfold firstRow
  by_cases hs:s=i
  ·subst hs;rw[if_neg (by rw[h3];simp)]
  ·rw[if_pos (h4 s (Nat.le_refl _) (by omega))]
   exact ih (s+1) (by omega) (by omega) (fun t a b=>h4 t (by omega) b)
theorem firstRow_none {j:Nat} (k s:Nat) (h4:∀t,s≤t→t<s+k→F.isZ (numT F R t j)=true):firstRow F R j k s=none:=by
 induction k generalizing s with
 | zero=>rfl
 | succ k ih=>
  unfold firstRow
  rw[if_pos (h4 s (Nat.le_refl _) (by omega))]
  exact ih (s+1) (fun t a b=>h4 t (by omega) (by omega))
theorem pivF_some {top i j:Nat} (k s:Nat) (h1:s≤j) (h2:j<s+k) (ht:top≤i) (hi:i<R.length) (h3:F.isZ (numT F R i j)=false) (h4:∀t,top≤t→t<i→F.isZ (numT F R t j)=true)
  (h5:∀c,s≤c→c<j → ∀t,top≤t→t<R.length→F.isZ (numT F R t c)=true):pivF F R top k s=some (i,j):=by
 induction k generalizing s with
 | zero=>omega
 | succ k ih=>
  unfold pivF
  by_cases hs:s=j
  ·subst hs;rw[firstRow_some _ _ ht (by omega) h3 h4]
  ·rw[firstRow_none _ _ (fun t a b=>h5 s (Nat.le_refl _) (by omega) t a (by omega))]
   exact ih (s+1) (by omega) (by omega) (fun c a b=>h5 c (by omega) b)
theorem pivF_none {top:Nat} (k s:Nat) (h5:∀c,s≤c→c<s+k → ∀t,top≤t→t<R.length→F.isZ (numT F R t c)=true):pivF F R top k s=none:=by
 induction k generalizing s with
 | zero=>rfl
 | succ k ih=>
  unfold pivF
  rw[firstRow_none _ _ (fun t a b=>h5 s (Nat.le_refl _) (by omega) t a (by omega))]
  exact ih (s+1) (fun c a b=>h5 c (by omega) (by omega))
theorem swapR_some {α:Type} {R:List α} {i j:Nat} {a b:α} (hi:R[i]? =some a) (hj:R[j]? =some b):swapR R i j=(R.set i b).set j a:=by
 unfold swapR;rw[hi,hj]
theorem swapR_length {α:Type} (R:List α) (i j:Nat):(swapR R i j).length=R.length:=by
 unfold swapR;split <;> simp
theorem swapR_mem {α:Type} {R:List α} {i j:Nat} {x:α} (h:x∈swapR R i j):x∈R:=by
 unfold swapR at h
 split at h
 ·rename_i a b ha hb
  rcases List.mem_or_eq_of_mem_set h with h | rfl
  ·rcases List.mem_or_eq_of_mem_set h with h | rfl
   ·exact h
   ·exact List.mem_of_getElem? hb
  ·exact List.mem_of_getElem? ha
 ·exact h
theorem swapR_perm {α:Type} (R:List α) (i j:Nat):List.Perm (swapR R i j) R:=by
 unfold swapR
 split
 ·rename_i a b ha hb
  obtain⟨hi,rfl⟩:=List.getElem?_eq_some_iff.1 ha
  obtain⟨hj,rfl⟩:=List.getElem?_eq_some_iff.1 hb
  exact List.set_set_perm hi hj
 ·exact List.Perm.refl _
theorem swapR_top {α:Type} {R:List α} {i j:Nat} {a b:α} (hi:R[i]? =some a) (hj:R[j]? =some b):(swapR R i j)[j]? =some a:=by
 rw[swapR_some hi hj,List.getElem?_set_self (by rw[List.length_set];exact(List.getElem?_eq_some_iff.1 hj).1)]
theorem setRow_length (i:Nat) (L:List T):(setRow R i L).length=R.length:=by simp[setRow]
theorem setRow_at {i:Nat} {r:RowT T} (h:R[i]? =some r) (L:List T):(setRow R i L)[i]? =some (r.1,r.2.1,L):=by simp[setRow,h]
theorem setRow_other {i k:Nat} (h:i≠k) (L:List T):(setRow R i L)[k]? =R[k]? :=by simp[setRow,h]
theorem setRow_blocks (i:Nat) (L:List T):(setRow R i L).map (·.1)=R.map (·.1):=by
 apply List.ext_getElem?
 intro k
 simp only[setRow,List.getElem?_map,List.getElem?_modify]
 cases R[k]? with
 | none=>rfl
 | some r=>by_cases h:i=k <;> simp[h]
theorem setRow_values (i:Nat) (L:List T) {β:Type} (f:Nat→Nat→β):(setRow R i L).map (fun r=>f r.1 r.2.1)=R.map (fun r=>f r.1 r.2.1):=by
 apply List.ext_getElem?
 intro k
 simp only[setRow,List.getElem?_map,List.getElem?_modify]
 cases R[k]? with
 | none=>rfl
 | some r=>by_cases h:i=k <;> simp[h]
theorem setRow_mem {i:Nat} {L:List T} {x:RowT T} (h:x∈setRow R i L):(x∈R)∨(∃r∈R,R[i]? =some r∧x=(r.1,r.2.1,L)):=by
 obtain⟨k,hk⟩:=List.mem_iff_getElem?.1 h
 by_cases h:i=k
 ·subst h
  cases hr:R[i]? with
  | none=>simp[setRow,hr] at hk
  | some r=>rw[setRow_at hr] at hk;exact .inr ⟨r,List.mem_of_getElem? hr,rfl,(Option.some.inj hk).symm⟩
 ·rw[setRow_other h] at hk;exact .inl (List.mem_of_getElem? hk)
theorem setRow_same {i:Nat} {r:RowT T} (h:R[i]? =some r):setRow R i r.2.2=R:=by
 apply List.ext_getElem?
 intro k
 by_cases hk:i=k
 ·subst hk;rw[setRow_at h,h]
 ·rw[setRow_other hk]
theorem rowOf_eq {i:Nat} {r:RowT T} (h:R[i]? =some r):rowOf R i=r.2.2:=by unfold rowOf;rw[h];rfl
variable {top o:Nat} {P:List T}
theorem clrTo_zero:clrTo F top o P R 0=R:=by
 apply List.ext_getElem?
 intro k
 simp only[clrTo,List.getElem?_mapIdx,Nat.not_lt_zero,false_and,if_false]
 cases R[k]? <;> rfl
theorem clrTo_next (k:Nat):(clrTo F top o P R k)[k]? =R[k]? :=by
 simp only[clrTo,List.getElem?_mapIdx,Nat.lt_irrefl,false_and,if_false]
 cases R[k]? <;> rfl
theorem clrTo_top (k:Nat):(clrTo F top o P R k)[top]? =R[top]? :=by
 simp only[clrTo,List.getElem?_mapIdx,ne_eq,not_true,and_false,if_false]
 cases R[top]? <;> rfl
theorem clrTo_skip:clrTo F top o P R (top+1)=clrTo F top o P R top:=by
 apply List.ext_getElem?
 intro k
 simp only[clrTo,List.getElem?_mapIdx]
 cases R[k]? with
 | none=>rfl
 | some r=>
  simp only[Option.map_some,Option.some.injEq]
  by_cases h:k<top
  ·rw[if_pos ⟨by omega,by omega⟩,if_pos ⟨h,by omega⟩]
  ·rw[if_neg (by omega),if_neg (by omega)]
theorem clrTo_succ {k:Nat} (hk:k≠top) {r:RowT T} (hr:R[k]? =some r):setRow (clrTo F top o P R k) k (clrRow F o r.2.2 P)=clrTo F top o P R (k+1):=by
 apply List.ext_getElem?
 intro j
 by_cases hj:k=j
 ·subst hj
  rw[setRow_at (clrTo_next k ▸ hr)]
  simp only[clrTo,List.getElem?_mapIdx,hr,Option.map_some,Option.some.injEq]
  rw[if_pos ⟨by omega,hk⟩]
 ·rw[setRow_other hj]
  simp only[clrTo,List.getElem?_mapIdx]
  cases R[j]? with
  | none=>rfl
  | some q=>
   simp only[Option.map_some,Option.some.injEq]
   by_cases h:j<k∧j≠top
   ·rw[if_pos h,if_pos ⟨by omega,h.2⟩]
   ·rw[if_neg h,if_neg (by omega)]
theorem divRow_length (d:T) (o:Nat) (L:List T):(divRow F d o L).length=L.length:=by simp[divRow]
theorem clrRow_length (o:Nat) (L P:List T):(clrRow F o L P).length=L.length:=by unfold clrRow;split <;> simp
end
def mapTo {T:Type} (f:List T→List T) (R:List (RowT T)) (k:Nat):List (RowT T):=R.mapIdx fun i r=>if i<k then (r.1,r.2.1,f r.2.2) else r
section
variable {T:Type} {f:List T→List T} {R:List (RowT T)}
theorem mapTo_length (k:Nat):(mapTo f R k).length=R.length:=by simp[mapTo]
theorem mapTo_zero:mapTo f R 0=R:=by
 apply List.ext_getElem?
 intro k
 simp only[mapTo,List.getElem?_mapIdx,Nat.not_lt_zero,if_false]
 cases R[k]? <;> rfl
theorem mapTo_next (k:Nat):(mapTo f R k)[k]? =R[k]? :=by
 simp only[mapTo,List.getElem?_mapIdx,Nat.lt_irrefl,if_false]
 cases R[k]? <;> rfl
theorem mapTo_succ {k:Nat} {r:RowT T} (hr:R[k]? =some r):setRow (mapTo f R k) k (f r.2.2)=mapTo f R (k+1):=by
 apply List.ext_getElem?
 intro j
 by_cases hj:k=j
 ·subst hj
  rw[setRow_at (mapTo_next k ▸ hr)]
  simp only[mapTo,List.getElem?_mapIdx,hr,Option.map_some,Option.some.injEq]
  rw[if_pos (by omega)]
 ·rw[setRow_other hj]
  simp only[mapTo,List.getElem?_mapIdx]
  cases R[j]? with
  | none=>rfl
  | some q=>
   simp only[Option.map_some,Option.some.injEq]
   by_cases h:j<k
   ·rw[if_pos h,if_pos (by omega)]
   ·rw[if_neg h,if_neg (by omega)]
theorem mapTo_all:mapTo f R R.length=R.map fun r=>(r.1,r.2.1,f r.2.2):=by
 apply List.ext_getElem?
 intro j
 simp only[mapTo,List.getElem?_mapIdx,List.getElem?_map]
 rcases Nat.lt_or_ge j R.length with h | h
 ·rw[List.getElem?_eq_getElem h];simp[h]
 ·rw[List.getElem?_eq_none h];rfl
theorem mapTo_blocks (k:Nat):(mapTo f R k).map (·.1)=R.map (·.1):=by
 apply List.ext_getElem?
 intro j
 simp only[mapTo,List.getElem?_map,List.getElem?_mapIdx]
 cases R[j]? with
 | none=>rfl
 | some r=>by_cases h:j<k <;> simp[h]
def nsSet (F:Fd T) (zero:T) (S:ElS T) (col k:Nat) (L:List T):List T:=(List.range k).foldl (fun l i=>l.set (S.cols[i]?.getD 0) (F.sub zero (numT F S.rows i col))) L
def nsList (F:Fd T) (zero one:T) (n:Nat) (S:ElS T) (col:Nat):List T:=(nsSet F zero S col S.cols.length ((List.replicate n zero).set col one)).reverse
def nsBasis (F:Fd T) (zero one:T) (n:Nat) (S:ElS T):Nat→List (List T)
 | 0=>[]
 | k+1=>nsBasis F zero one n S k++(if S.cols.contains (n-1-k)=true then [] else [nsList F zero one n S (n-1-k)])
theorem nsSet_length (F:Fd T) (zero:T) (S:ElS T) (col k:Nat) (L:List T):(nsSet F zero S col k L).length=L.length:=by
 induction k with
 | zero=>rfl
 | succ k ih=>unfold nsSet at *;rw[List.range_succ,List.foldl_append];simp[ih]
theorem nsSet_succ (F:Fd T) (zero:T) (S:ElS T) (col k:Nat) (L:List T):nsSet F zero S col (k+1) L=(nsSet F zero S col k L).set (S.cols[k]?.getD 0) (F.sub zero (numT F S.rows k col)):=by
 unfold nsSet;rw[List.range_succ,List.foldl_append];rfl
end
section
variable {T:Type} {F:Fd T} {R:List (RowT T)}
theorem firstRow_bounds {j i:Nat} (k s:Nat) (h:firstRow F R j k s=some i):s≤i∧i<s+k∧F.isZ (numT F R i j)=false:=by
 induction k generalizing s with
 | zero=>cases h
 | succ k ih=>
  unfold firstRow at h
  split at h
  ·have:=ih (s+1) h;exact⟨by omega,by omega,this.2.2⟩
  ·rename_i hz
   obtain rfl:=Option.some.inj h
   exact⟨Nat.le_refl _,by omega,by simpa using hz⟩
theorem pivF_bounds {top i j:Nat} (k s:Nat) (h:pivF F R top k s=some (i,j)):s≤j∧j<s+k∧top≤i∧i<R.length∧F.isZ (numT F R i j)=false:=by
 induction k generalizing s with
 | zero=>cases h
 | succ k ih=>
  unfold pivF at h
  split at h
  ·rename_i x hx
   simp only[Option.some.injEq,Prod.mk.injEq] at h
   obtain⟨rfl,rfl⟩:=h
   have:=firstRow_bounds _ _ hx
   exact⟨Nat.le_refl _,by omega,this.1,by omega,this.2.2⟩
  ·have:=ih (s+1) h;exact⟨by omega,by omega,this.2.2⟩
theorem elGo_cols {n:Nat} (k fr:Nat) (S:ElS T) (hfr:fr≤n) (h:∀c∈S.cols,c<fr):∀c∈(elGo F n k fr S).cols,c<n:=by
 induction k generalizing fr S with
 | zero=>exact fun c hc=>Nat.lt_of_lt_of_le (h c hc) hfr
 | succ k ih=>
  unfold elGo
  split
  ·exact fun c hc=>Nat.lt_of_lt_of_le (h c hc) hfr
  ·rename_i row col hp
   have hb:=pivF_bounds _ _ hp
   refine ih (col+1) _ (by omega) ?_
   intro c hc
   simp only[elStep,List.mem_append,List.mem_singleton] at hc
   rcases hc with hc | rfl
   ·have:=h c hc;omega
   ·omega
end
end Go.Proofs.YtneafcdfnhnpnaaGreatDoor
namespace Go.Proofs.YtneafcdfnhnpnaaGreatDoor
open Go.RowKit
noncomputable def resF (p:Int):Fd Int:=⟨0,fun x=>x==0,fun a b=>(a-b)%p,fun a b=>a*b%p,overI p⟩
theorem divI_row (p d:Int) (o n:Nat) (L:List Int) (h:o+n=L.length):mapFrom (divI p d) o n L=divRow (resF p) d o L:=by
 unfold mapFrom divRow
 apply List.ext_getElem?
 intro j
 simp only[List.getElem?_mapIdx]
 rcases Nat.lt_or_ge j L.length with hl | hl
 ·rw[List.getElem?_eq_getElem hl]
  simp only[Option.map_some,Option.some.injEq]
  by_cases h2:o≤j
  ·rw[if_pos ⟨h2,by omega⟩,if_pos h2];simp[divI,resF]
  ·rw[if_neg (by omega),if_neg h2]
 ·rw[List.getElem?_eq_none hl];rfl
theorem clearI_row (p:Int) (o n:Nat) (L P:List Int) (h:o+n=L.length):clearI p o n L o P=clrRow (resF p) o L P:=by
 unfold clearI clrRow
 have hz:(resF p).z=0:=rfl
 have hi:∀x,((resF p).isZ x=true)=(x=0):=fun x=>by simp[resF]
 rw[hz]
 simp only[hi]
 split
 ·rfl
 ·unfold zipFrom
  apply List.ext_getElem?
  intro j
  simp only[List.getElem?_mapIdx]
  rcases Nat.lt_or_ge j L.length with hl | hl
  ·rw[List.getElem?_eq_getElem hl]
   simp only[Option.map_some,Option.some.injEq]
   by_cases h2:o≤j
   ·rw[if_pos ⟨h2,by omega⟩,if_pos h2,show o+(j-o)=j by omega];simp[subI,resF]
   ·rw[if_neg (by omega),if_neg h2]
  ·rw[List.getElem?_eq_none hl];rfl
structure ButS (s:List Nat) (w w':World):Prop where
 os:w'.os=w.os
 tape:w'.tape=w.tape
 output:w'.output=w.output
 size:w.heap.size≤w'.heap.size
 block:∀k,k<w.heap.size→k ∉ s→w'.heap[k]? =w.heap[k]?
section
variable {s:List Nat} {a b c:World}
theorem ButS.refl (s:List Nat) (w:World):ButS s w w:=⟨rfl,rfl,rfl,Nat.le_refl _,fun _ _ _=>rfl⟩
theorem ButS.trans (h:ButS s a b) (k:ButS s b c):ButS s a c:=
 ⟨k.os.trans h.os,k.tape.trans h.tape,k.output.trans h.output,Nat.le_trans h.size k.size,fun i hi hg=>(k.block i (Nat.lt_of_lt_of_le hi h.size) hg).trans (h.block i hi hg)⟩
theorem ButS.of_below (h:Below a.heap.size a b):ButS s a b:=⟨h.os,h.tape,h.output,h.size,fun i hi _=>h.block i hi⟩
theorem ButS.of_but {g:Nat} (h:But g a b) (hg:g∈s):ButS s a b:=⟨h.os,h.tape,h.output,h.size,fun i hi hn=>h.block i hi (fun e=>hn (e ▸ hg))⟩
theorem ButS.below (h:ButS s a b) (k:Below b.heap.size b c):ButS s a c:=h.trans (ButS.of_below k)
theorem ButS.but {g:Nat} (h:ButS s a b) (k:But g b c) (hg:g∈s):ButS s a c:=h.trans (ButS.of_but k hg)
theorem ButS.setCell (h:ButS s a b) (p:Addr) (hp:p.block∈s) (u:Value):ButS s a (b.setCell p u):=
 h.trans ⟨rfl,rfl,rfl,by simp[World.setCell],fun k _ hg=>Below.heap_setCell _ _ _ _ (fun e=>hg (e ▸ hp))⟩
theorem ButS.setNew (h:ButS s a b) (p:Addr) (hp:a.heap.size≤p.block) (u:Value):ButS s a (b.setCell p u):=
 ⟨h.os,h.tape,h.output,Nat.le_trans h.size (by simp[World.setCell]),fun k hk hg=>(Below.heap_setCell _ _ _ _ (by omega)).trans (h.block k hk hg)⟩
theorem ButS.drew (h:ButS s a b):ButS s a b.drew:=⟨h.os,h.tape,h.output,h.size,h.block⟩
theorem ButS.grown (h:ButS s a b) {row:Option Nat} (hg:b.grownBy c row) (hr:∀k,row=some k→a.heap.size≤k):ButS s a c:=
 ⟨hg.os.trans h.os,hg.tape.trans h.tape,hg.output.trans h.output,Nat.le_trans h.size hg.size,
  fun i hi hs=>(hg.block i (Nat.lt_of_lt_of_le hi h.size) (fun e=>by have:=hr i e.symm;omega)).trans (h.block i hi hs)⟩
theorem Own.grown {g:Nat} {t:TypeId} {cs:List Value} {row:Option Nat} (o:Own a g t cs) (hg:a.grownBy b row) (hr:row≠some g):Own b g t cs:=
 (hg.block g o.lt (fun e=>hr e.symm)).trans o
theorem oKeep {base:Nat} {e:TypeId} {size:Nat} {v:Value} {n:Nat} {xs:List Value} (h:a.ownsRow base e size v n xs) (hk:∀k,k<a.heap.size→v.ownBlock=some k→b.heap[k]? =a.heap[k]?):b.ownsRow base e size v n xs:=by
 refine⟨h.1,?_⟩
 rcases h.2 with hn | ⟨g,cap,cur,rfl,hb,hgg,rest⟩
 ·exact .inl hn
 ·exact .inr ⟨g,cap,cur,rfl,hb,(hk g (Array.getElem?_eq_some_iff.1 hgg).1 rfl).trans hgg,rest⟩
theorem oBelow {base:Nat} {e:TypeId} {size:Nat} {v:Value} {n:Nat} {xs:List Value} (h:a.ownsRow base e size v n xs) (hb:Below a.heap.size a b):b.ownsRow base e size v n xs:=
 oKeep h fun k hk _=>hb.block k hk
theorem oBut {base:Nat} {e:TypeId} {size:Nat} {v:Value} {n:Nat} {xs:List Value} (h:a.ownsRow base e size v n xs) {g:Nat} (hb:But g a b) (hg:g<base):b.ownsRow base e size v n xs:=
 oKeep h fun k hk hv=>hb.block k hk (by have:=(h.lt k hv).1;omega)
theorem oSet {base:Nat} {e:TypeId} {size:Nat} {v:Value} {n:Nat} {xs:List Value} (h:a.ownsRow base e size v n xs) (p:Addr) (hp:p.block<base) (u:Value):(a.setCell p u).ownsRow base e size v n xs:=
 oKeep h fun k _ hv=>Below.heap_setCell _ _ _ _ (by have:=(h.lt k hv).1;omega)
end
theorem nodup_block {R:List RowI} (h:(R.map (·.1)).Nodup) {i j:Nat} {a b:RowI} (hi:R[i]? =some a) (hj:R[j]? =some b) (hij:i≠j):a.1≠b.1:=by
 intro e
 have h1:(R.map (·.1))[i]? =some a.1:=by rw[List.getElem?_map,hi];rfl
 have h2:(R.map (·.1))[j]? =some a.1:=by rw[List.getElem?_map,hj,e];rfl
 exact hij ((List.getElem?_inj (List.getElem?_eq_some_iff.1 h1).1 h).1 (h1.trans h2.symm))
section
variable {w w':World} {g n:Nat} {R:List RowI}
theorem MxI.gne (h:MxI w g R n) {r:RowI} (hr:r∈R):g≠r.1:=h.own.apart (h.row r hr).1 (by decide)
theorem MxI.setRow (h:MxI w g R n) {i:Nat} {r:RowI} (hr:R[i]? =some r) {L:List Int} (hO:Own w' r.1 2 (icells L)) (hl:L.length=n) (hb:But r.1 w w'):MxI w' g (setRow R i L) n:=by
 refine⟨?_,?_,?_⟩
 ·have e:(Go.Proofs.YtneafcdfnhnpnaaGreatDoor.setRow R i L).map (rowV n)=R.map (rowV n):=setRow_values i L (fun b c=>Value.slice (some ⟨b,0,none⟩) n c)
  rw[e]
  exact h.own.but hb (h.gne (List.mem_of_getElem? hr))
 ·intro x hx
  obtain⟨k,hk⟩:=List.mem_iff_getElem?.1 hx
  by_cases hik:i=k
  ·subst hik
   rw[setRow_at hr] at hk
   obtain rfl:=Option.some.inj hk
   have:=h.row r (List.mem_of_getElem? hr)
   exact⟨hO,hl,this.2.2.1,this.2.2.2⟩
  ·rw[setRow_other hik] at hk
   have:=h.row x (List.mem_of_getElem? hk)
   exact⟨this.1.but hb (nodup_block h.apart hk hr (fun e=>hik e.symm)),this.2⟩
 ·rw[setRow_blocks];exact h.apart
theorem MxI.swap (h:MxI w g R n) {i j:Nat} {a b:RowI} (hi:R[i]? =some a) (hj:R[j]? =some b):MxI ((w.setCell ⟨g,i,none⟩ (rowV n b)).setCell ⟨g,j,none⟩ (rowV n a)) g (swapR R i j) n:=by
 refine⟨?_,?_,?_⟩
 ·rw[swapR_some hi hj,List.map_set,List.map_set]
  exact(h.own.put _ _).put _ _
 ·intro x hx
  have hx:=swapR_mem hx
  have:=h.row x hx
  exact⟨(this.1.other (p:=⟨g,i,none⟩) (fun e=>h.gne hx e.symm) _).other (p:=⟨g,j,none⟩) (fun e=>h.gne hx e.symm) _,this.2⟩
 ·exact((swapR_perm R i j).map _).nodup_iff.2 h.apart
theorem MxI.keep (h:MxI w g R n) (hk:∀k,k=g∨k∈R.map (·.1)→w'.heap[k]? =w.heap[k]?):MxI w' g R n:=
 ⟨(hk g (.inl rfl)).trans h.own,fun r hr=>⟨(hk r.1 (.inr (List.mem_map_of_mem hr))).trans (h.row r hr).1,(h.row r hr).2⟩,h.apart⟩
theorem MxI.lt (h:MxI w g R n) {k:Nat} (hk:k=g∨k∈R.map (·.1)):k<w.heap.size:=by
 rcases hk with rfl | hk
 ·exact h.own.lt
 ·obtain⟨r,hr,rfl⟩:=List.mem_map.1 hk
  exact(h.row r hr).1.lt
end
def InP (p:Int) (R:List RowI):Prop:=∀r∈R,∀x∈r.2.2,0≤x∧x<p
theorem InP.swap {p:Int} {R:List RowI} (h:InP p R) (i j:Nat):InP p (swapR R i j):=fun r hr=>h r (swapR_mem hr)
theorem InP.set {p:Int} {R:List RowI} (h:InP p R) (i:Nat) {L:List Int} (hL:∀x∈L,0≤x∧x<p):InP p (setRow R i L):=by
 intro r hr
 rcases setRow_mem hr with hr | ⟨q,_,_,rfl⟩
 ·exact h r hr
 ·exact hL
theorem mapIdx_all {α:Type} {Q:α→Prop} {f:Nat→α→α} {L:List α} (h:∀j x,x∈L→Q (f j x)):∀x∈L.mapIdx f,Q x:=by
 intro x hx
 obtain⟨k,hk⟩:=List.mem_iff_getElem?.1 hx
 rw[List.getElem?_mapIdx] at hk
 cases hL:L[k]? with
 | none=>rw[hL] at hk;cases hk
 | some y=>rw[hL] at hk;obtain rfl:=Option.some.inj hk;exact h k y (List.mem_of_getElem? hL)
theorem divRow_in {p:Int} (hp:0<p) (d:Int) (o:Nat) {L:List Int} (h:∀x∈L,0≤x∧x<p):∀x∈divRow (resF p) d o L,0≤x∧x<p:=by
 refine mapIdx_all fun j x hx=> ?_
 split
 ·split
  ·exact h x hx
  ·exact⟨Int.emod_nonneg _ (by omega),Int.emod_lt_of_pos _ hp⟩
 ·exact h x hx
theorem clrRow_in {p:Int} (hp:0<p) (o:Nat) {L P:List Int} (h:∀x∈L,0≤x∧x<p):∀x∈clrRow (resF p) o L P,0≤x∧x<p:=by
 unfold clrRow
 split
 ·exact h
 ·refine mapIdx_all fun j x hx=> ?_
  split
  ·split
   ·exact h x hx
   ·exact⟨Int.emod_nonneg _ (by omega),Int.emod_lt_of_pos _ hp⟩
  ·exact h x hx
theorem oForm {w:World} {base:Nat} {e:TypeId} {size:Nat} {v:Value} {n:Nat} {xs:List Value} (h:w.ownsRow base e size v n xs):∃A c,v = .slice A n c∧n≤c∧c≤maxLen:=by
 rcases h.2 with ⟨rfl,rfl⟩ | ⟨g,cap,cur,rfl,_,_,h1,h2,_⟩
 ·exact⟨none,0,rfl,Nat.le_refl _,by unfold maxLen;omega⟩
 ·exact⟨_,_,rfl,h1,h2⟩
theorem Own.four {w:World} {g:Nat} {t:TypeId} {a b c d:Value} (h:Own w g t [a,b,c,d]):
  w.cell? ⟨g,0,none⟩=some a∧w.cell? ⟨g,1,none⟩=some b∧w.cell? ⟨g,2,none⟩=some c∧w.cell? ⟨g,3,none⟩=some d∧w.frozen? ⟨g,0,none⟩=false∧w.frozen? ⟨g,1,none⟩=false∧w.frozen? ⟨g,2,none⟩=false∧w.frozen? ⟨g,3,none⟩=false:=
 ⟨h.cell 0,h.cell 1,h.cell 2,h.cell 3,h.free 0,h.free 1,h.free 2,h.free 3⟩
def listPost (c:Int) (l:List Int) (w:World) (e:Ending) (w':World):Prop:=
 (if c=0 then ∃v,e = .returned (.tuple #[v,.int .i64 0])∧Sl w' 1 v (icells l) else e = .returned (.tuple #[.slice none 0 0,.int .i64 c]))∧Below w.heap.size w w'
end Go.Proofs.YtneafcdfnhnpnaaGreatDoor
