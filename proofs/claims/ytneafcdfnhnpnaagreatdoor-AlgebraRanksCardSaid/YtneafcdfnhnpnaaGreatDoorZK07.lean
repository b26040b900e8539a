/- Contract: clearFirst over the residues. -/
import Derived.Test.YtneafcdfnhnpnaaGreatDoorZK06
set_option maxRecDepth 100000
set_option maxHeartbeats 4000000
namespace Go.Proofs.YtneafcdfnhnpnaaGreatDoor
open Go.RowKit
def xw (g:Int→Int→Int) (o k:Nat) (L:List Int) (o2:Nat) (P:List Int):List Int:=L.mapIdx fun j y=>if o≤j∧j<o+k then g y (P[o2+(j-o)]?.getD 0) else y
section
variable (g:Int→Int→Int) (o k:Nat) (L:List Int) (o2:Nat) (P:List Int)
theorem Ml:(xw g o k L o2 P).length=L.length:=by simp[xw]
theorem FV:xw g o 0 L o2 P=L:=by
 apply List.ext_getElem?;intro j;simp only[xw,List.getElem?_mapIdx,Nat.add_zero]
 cases L[j]? with
 | none=>rfl
 | some x=>simp only[Option.map_some];rw[if_neg (by omega)]
theorem Mk:(xw g o k L o2 P)[o+k]? =L[o+k]? :=by
 simp only[xw,List.getElem?_mapIdx,Nat.lt_irrefl,and_false,if_false];cases L[o+k]? <;> simp
theorem Mn (h:o+k<L.length):(xw g o k L o2 P).set (o+k) (g (L[o+k]?.getD 0) (P[o2+k]?.getD 0))=xw g o (k+1) L o2 P:=by
 apply List.ext_getElem?;intro j;rw[List.getElem?_set];simp only[xw,List.getElem?_mapIdx,List.length_mapIdx];by_cases hj:o+k=j
 ·subst hj;simp[h,Nat.add_sub_cancel_left]
 ·rw[if_neg hj]
  rcases Nat.lt_or_ge j L.length with hl | hl
  ·rw[List.getElem?_eq_getElem hl]
   simp only[Option.map_some,Option.some.injEq];by_cases h2:o≤j∧j<o+k
   ·rw[if_pos h2,if_pos (by omega)]
   ·rw[if_neg h2,if_neg (by omega)]
  ·rw[List.getElem?_eq_none hl];rfl
theorem FU (h:o+k<L.length) (hf:g (L[o+k]?.getD 0) (P[o2+k]?.getD 0)=L[o+k]?.getD 0):xw g o (k+1) L o2 P=xw g o k L o2 P:=by
 rw[←Mn g o k L o2 P h,hf];apply List.ext_getElem?;intro j;rw[List.getElem?_set,Ml];by_cases hj:o+k=j
 ·subst hj;rw[Mk];simp[h]
 ·rw[if_neg hj]
end
def zI (p f y x:Int):Int:=if x=0 then y else (y-f*x%p)%p
def J4 (p:Int) (o n:Nat) (L:List Int) (o2:Nat) (P:List Int):List Int:=if L[o]?.getD 0=0 then L else xw (zI p (L[o]?.getD 0)) o n L o2 P
theorem VY (p:Int) (w:World):(nilAhead 444 197 (.agg #[.int .i64 p]) "talisman/algebra.minus").run Tryz.prog w = .ok (some false) w:=by kernel_rfl
theorem Ng (p:Int) (w:World):(nilAhead 444 197 (.agg #[.int .i64 p]) "talisman/algebra.isZero").run Tryz.prog w = .ok (some false) w:=by kernel_rfl
theorem jh.drew {g:Nat} {a b:World} (h:jh g a b):jh g a b.drew:=⟨h.os,h.tape,h.output,h.size,h.block⟩
theorem jh.dr {a b:World} (h:Below a.drew.heap.size a.drew b):Below a.heap.size a b:=⟨h.os,h.tape,h.output,h.size,h.block⟩
theorem UD (p:Int) (w:World) (b o n c b2 o2 c2:Nat) (L P:List Int) (hO:ja w b 2 (jc L)) (hQ:ja w b2 2 (jc P)) (hbb:b2≠b) (hn0:0<n) (hn:o+n=L.length) (hn2:o2+n=P.length) (hc1:n≤c) (hc2:c≤1000000) (hd1:n≤c2) (_hd2:c2≤1000000)
  (hp:PF p) (hL:∀x∈L,0≤x∧x<p) (hP:∀x∈P,0≤x∧x<p):
  Calls Tryz.prog 213 #[.iface 197 (.agg #[.int .i64 p]),.slice (some ⟨b,o,none⟩) n c,.slice (some ⟨b2,o2,none⟩) n c2] w fun e w'=>
   e = .returned (.tuple #[])∧ja w' b 2 (jc (J4 p o n L o2 P))∧jh b w w':=by
 have hZ:=YS p;have hM:=VX p;have hT:=Ff p;have hmn:=VY p
 have hmf:∀(fn:Fn) (first cap:Array Value) (w:World),(Instr.makeFunc fn first cap).run Tryz.prog w = .ok (.func fn first cap) w:=fun _ _ _ _=>rfl
 have HZ:=Lib.hid (fun (x:Int) W=>Zx p x W);have hp1:=hp.1;have hp2:=hp.2.1;have HT:=Lib.hid (fun (x y:Int) W hx hy=>Gd p x y W (by omega) hp2 hx hy);have HM:=Lib.hid (fun (x y:Int) W hx hy=>Gb p x y W (by omega) hp2 hx hy);have HL:=Lib.hid hL;have HP:=Lib.hid hP;have Hn:=Lib.hid hn;have Hn2:=Lib.hid hn2;have hb:b<w.heap.size:=hO.lt;have hck:=(hO.cell o).trans (kh _ o (by omega));have hf:=hL (L[o]?.getD 0) (by rw[List.getElem?_eq_getElem (by omega)];exact List.getElem_mem (by omega));have hfr0:=hO.free o;have HC:=Lib.hid (rfl:J4 p o n L o2 P=J4 p o n L o2 P)
 conv at HC=>rhs;rhs;unfold J4
 clear hp hL hP;generalize hf0:L[o]?.getD 0=f at *;clear hf0;by_cases h0:(f==0)=true
 ·have HC':=Lib.hid (HC.out.trans (if_pos (by simpa using h0)))
  clear hn hn2 HC;go_enter Tryz.func213,Tryz.ntmps213
  go_wp2_with fail
  refine(HZ.out _ _).mono ?_;rintro e w2 ⟨rfl,hB2⟩;have hO2:=hO.below hB2 hO.lt;have hB:=jh.of_below (g:=b) hB2;clear hck hfr0 hO hQ hB2
  go_wp2
  (try simp only[Exit.inBlock,Exit.then]);refine bodyPost_ret (results_none rfl _ _ _) rfl ?_
  exact⟨rfl,by rw[HC'.out];exact hO2,hB⟩
 ·have h0':(f==0)=false:=by simpa using h0
  have HC':=Lib.hid (HC.out.trans (if_neg (by simpa using h0)))
  have hstart:ja w b 2 (jc (xw (zI p f) o 0 L o2 P)):=by rw[FV];exact hO
  clear hn hn2 HC h0 hO;go_enter Tryz.func213,Tryz.ntmps213
  go_wp2_with fail
  refine(HZ.out _ _).mono ?_;rintro e w2 ⟨rfl,hB2⟩;have hst:=hstart.below hB2 hb;have hB0:=jh.of_below (g:=b) hB2;have hQ2:=hQ.below hB2 hQ.lt;clear hck hfr0 hB2 hstart hQ
  go_wp2_with fail
  go_loopw [7,8,17] (fun _ _ i wr=>∃(k:Nat),i = .int .i64 k∧k≤n∧ja wr b 2 (jc (xw (zI p f) o k L o2 P))∧ja wr b2 2 (jc P)∧jh b w wr) (fun _ _ i _=>n-(intOf i).toNat)
  case atStart=>exact⟨0,rfl,by omega,hst,hQ2,hB0⟩
  case round=>
   clear hst hB0 hQ2;obtain⟨k,rfl,hk,hO,hQ,hB⟩:=hrel;by_cases hlt:k<n
   ·have hck1:=(hQ.cell (o2+k)).trans (kh _ (o2+k) (by have:=Hn2.out;omega))
    have hck2:=(hO.cell (o+k)).trans (kh _ (o+k) (by rw[Ml];have:=Hn.out;omega));rw[Mk] at hck2;have hfr:=hO.free (o+k);have hx:=HP.out (P[o2+k]?.getD 0) (by have:=Hn2.out;rw[List.getElem?_eq_getElem (by omega)];exact List.getElem_mem (by omega));have hy:=HL.out (L[o+k]?.getD 0) (by have:=Hn.out;rw[List.getElem?_eq_getElem (by omega)];exact List.getElem_mem (by omega));have Hsame:=Lib.hid (FU (zI p f) o k L o2 P (by have:=Hn.out;omega));have Hsucc:=Lib.hid (Mn (zI p f) o k L o2 P (by have:=Hn.out;omega));generalize P[o2+k]?.getD 0=x at *;generalize L[o+k]?.getD 0=y at *;by_cases h1:(x==0)=true
    ·have Hs:=Lib.hid (Hsame.out (by unfold zI;rw[if_pos (by simpa using h1)]))
     go_wp2_with fail
     refine(HZ.out _ _).mono ?_;rintro e w3 ⟨rfl,hB2⟩;have hB':=hB.below hB2;have hO':=hO.below hB2 hO.lt;have hQ':=hQ.below hB2 hQ.lt;clear hck1 hck2 hfr hO hB hQ hx hB2
     go_wp2
     refine⟨⟨k+1,by go_num,by omega,?_,hQ',hB'⟩,by simp[intOf];omega⟩;rw[Hs.out];exact hO'
    ·have h1':(x==0)=false:=by simpa using h1
     have Hv:=Lib.hid (show zI p f y x=(y-f*x)%p by unfold zI;rw[if_neg (by simpa using h1)];simp);clear h1
     go_wp2_with fail
     refine(HZ.out _ _).mono ?_;rintro e w3 ⟨rfl,hB2⟩;have hB':=hB.below hB2;have hO':=hO.below hB2 hO.lt;have hQ':=hQ.below hB2 hQ.lt;have hb3:=hO'.lt;have hc3:w3.cell? ⟨b,o+k,none⟩=some (.int .i64 y):=(hB2.cell (p:=⟨b,o+k,none⟩) hO.lt).trans hck2;have hf3:w3.frozen? ⟨b,o+k,none⟩=false:=(hB2.frozen (p:=⟨b,o+k,none⟩) hO.lt).trans hfr;have hm:=Lib.hid <| And.intro (Int.emod_nonneg (f*x) (show p≠0 by omega)) (Int.emod_lt_of_pos (f*x) (show 0<p by omega));have Hx:=Lib.hid hx;have Hy:=Lib.hid hy;have Hf:=Lib.hid hf;clear hck1 hck2 hfr hO hB hQ hB2 hx hy
     go_wp2
     go_region_with (first
       | (go_at_call 323;go_split_ands;refine(HT.out f x _ Hf.out Hx.out).mono ?_;rintro e w4 ⟨rfl,hB4⟩;have hc4:=(hB4.cell (p:=⟨b,o+k,none⟩) hb3).trans hc3;have hf4:=(hB4.frozen (p:=⟨b,o+k,none⟩) hb3).trans hf3;have hb4:b<w4.heap.size:=Nat.lt_of_lt_of_le hb3 hB4.size)
       | (go_at_call 320;go_split_ands;refine(HM.out y (f*x%p) _ Hy.out hm.out).mono ?_;rintro e w5 ⟨rfl,hB5⟩;have hc5:=(hB5.cell (p:=⟨b,o+k,none⟩) hb4).trans hc4;have hf5:=(hB5.frozen (p:=⟨b,o+k,none⟩) hb4).trans hf4))
     all_goals (
      have hB5':=((hB'.drew.trans (jh.of_below hB4)).below hB5)
      have hO5:=(hO'.below (jh.dr hB4) hb3).below hB5 hb4;have hQ5:=(hQ'.below (jh.dr hB4) hQ'.lt).below hB5 (Nat.lt_of_lt_of_le hQ'.lt hB4.size);clear hB4 hB5 hB' hO' hQ' hc3 hf3 hc4 hf4 hc5 hf5
      go_wp2
      refine⟨⟨k+1,by go_num,by omega,?_,hQ5.other (fun h=>hbb h) _,hB5'.setCell _ rfl _⟩,by simp[intOf];omega⟩
      rw[←Hsucc.out,Hv.out,←xF];exact hO5.put _ _)
   ·have hkk:k=n:=by omega
    subst hkk
    go_wp2
    go_end0
    exact⟨rfl,by rw[HC'.out];exact hO,hB⟩
abbrev jS:=Nat×Nat×List Int
def qy (n:Nat) (r:jS):Value:= .slice (some ⟨r.1,0,none⟩) n r.2.1
structure kd (w:World) (g:Nat) (R:List jS) (n:Nat):Prop where
 own:ja w g 192 (R.map (qy n))
 row:∀r∈R,ja w r.1 2 (jc r.2.2)∧r.2.2.length=n∧n≤r.2.1∧r.2.1≤1000000
 apart:(R.map (·.1)).Nodup
theorem ja.apart {w:World} {g h:Nat} {s t:TypeId} {cs ds:List Value} (a:ja w g s cs) (b:ja w h t ds) (hst:s≠t):g≠h:=by
 intro e;subst e;unfold ja at a b;rw[a] at b
 injection b with b
 injection b with _ b
 exact hst b
theorem kd.below {w w':World} {g:Nat} {R:List jS} {n:Nat} (h:kd w g R n) (hb:Below w.heap.size w w'):kd w' g R n:=
 ⟨h.own.below hb h.own.lt,fun r hr=>⟨(h.row r hr).1.below hb (h.row r hr).1.lt,(h.row r hr).2⟩,h.apart⟩
theorem kd.cellRow {w:World} {g:Nat} {R:List jS} {n:Nat} (h:kd w g R n) {i:Nat} {r:jS} (hr:R[i]? =some r):w.cell? ⟨g,i,none⟩=some (qy n r):=by
 rw[h.own.cell i,List.getElem?_map,hr];rfl
theorem kd.cellNum {w:World} {g:Nat} {R:List jS} {n:Nat} (h:kd w g R n) {i j:Nat} {r:jS} (hr:R[i]? =some r) (hj:j<n):w.cell? ⟨r.1,j,none⟩=some (.int .i64 (r.2.2[j]?.getD 0)):=by
 have:=h.row r (List.mem_of_getElem? hr);exact(this.1.cell j).trans (kh _ _ (by omega))
theorem H3 (g c n:Nat) (R:List jS) (w:World) (hM:kd w g R n):
  Calls Tryz.prog 215 #[.slice (some ⟨g,0,none⟩) R.length c] w fun e w'=>e = .returned (.int .i64 ((if R=[] then 0 else n:Nat):Int))∧w=w':=by
 rcases R with _ | ⟨r,R⟩
 ·go_enter Tryz.func215,Tryz.ntmps215
  go_wp2
  go_ret;exact⟨rfl,rfl⟩
 ·have hck:=hM.cellRow (i:=0) (r:=r) rfl
  have hl:((((r::R).length:Nat):Int)==0)=false:=by simp;omega
  unfold qy at hck
  have hpos:0<(r::R).length:=by simp
  clear hM;generalize (r::R).length=m at *;go_enter Tryz.func215,Tryz.ntmps215
  go_wp2
  go_ret;exact⟨rfl,rfl⟩
def zF (R:List jS) (i j:Nat):Int:=((R[i]?.map (·.2.2)).getD [])[j]?.getD 0
theorem We {R:List jS} {i j:Nat} {r:jS} (hr:R[i]? =some r):zF R i j=r.2.2[j]?.getD 0:=by unfold zF;rw[hr];rfl
def Qw (R:List jS) (t a c:Nat):Prop:=∀j,a≤j→j<c → ∀i,t≤i→i<R.length→zF R i j=0
def Ws (R:List jS) (n top from_:Nat) (w:World) (e:Ending) (w':World):Prop:=
 Below w.heap.size w w'∧((∃i j:Nat,e = .returned (.tuple #[.int .i64 i,.int .i64 j,.bool true])∧top≤i∧i<R.length∧from_≤j∧j<n∧zF R i j≠0∧(∀k,top≤k→k<i→zF R k j=0)∧Qw R top from_ j)
  ∨ (∃i j:Int,e = .returned (.tuple #[.int .i64 i,.int .i64 j,.bool false])∧Qw R top from_ n))
theorem Dd (p:Int) (g c n:Nat) (R:List jS) (w:World) (top from_:Nat) (hM:kd w g R n) (hR:R≠[]) (hc:R.length≤c) (hc2:c≤1000000) (ht:top≤R.length) (hf:from_≤n) (hn:n≤1000000):
  Calls Tryz.prog 211 #[.iface 197 (.agg #[.int .i64 p]),.slice (some ⟨g,0,none⟩) R.length c,.int .i64 top,.int .i64 from_] w (Ws R n top from_ w):=by
 have hZ:=YS p;have hZn:=Ng p
 have hmf:∀(fn:Fn) (first cap:Array Value) (w:World),(Instr.makeFunc fn first cap).run Tryz.prog w = .ok (.func fn first cap) w:=fun _ _ _ _=>rfl
 have HZ:=Lib.hid (fun (x:Int) W=>Zx p x W);have HW:=Lib.hid (fun W (h:kd W g R n)=>by have:=H3 g c n R W h;rw[if_neg hR] at this;exact this);have HR:=Lib.hid hR;have HM:=Lib.hid hM;clear hR hM;go_enter Tryz.func211,Tryz.ntmps211
 go_wp2_with fail
 go_step3
 go_wp2_with fail
 try go_step3
 try go_wp2_with fail
 go_loopg [8,9,10] (n-from_) (fun gh r j f wr=>∃(rr:Int) (k:Nat),r = .int .i64 rr∧j = .int .i64 k∧f = .bool false∧from_≤k∧k+gh=n∧Hid (Qw R top from_ k)∧Hid (kd wr g R n)∧Below w.heap.size w wr)
 case atStart=>exact⟨0,from_,rfl,rfl,rfl,by omega,by omega,Lib.hid (fun j h1 h2=>by omega),HM,Below.refl _ _⟩
 case round=>
  clear HM;obtain⟨rr,k,rfl,rfl,rfl,hk1,hk2,hC,hMr,hB⟩:=hrel
  cases gk with
  | zero=>
   have hkn:k=n:=by omega
   subst hkn
   go_wp2_with (go_at_call 215;refine(HW.out _ hMr.out).mono ?_;rintro e w2 ⟨rfl,rfl⟩)
   rw[Exit.noGoto_ret];go_ret3;exact⟨hB,Or.inr ⟨_,_,rfl,hC.out⟩⟩
  | succ gh=>
   have hlt:k<n:=by omega
   go_wp2_with (go_at_call 215;refine(HW.out _ hMr.out).mono ?_;rintro e w2 ⟨rfl,rfl⟩)
   go_loopg [8,10] (R.length-top) (fun h r f wx=>∃i:Nat,r = .int .i64 i∧f = .bool false∧top≤i∧i+h=R.length∧Hid (∀t,top≤t→t<i→zF R t k=0)∧Hid (kd wx g R n)∧Below w.heap.size w wx)
   case atStart=>exact⟨top,rfl,rfl,by omega,by omega,Lib.hid (fun t h1 h2=>by omega),hMr,hB⟩
   case round=>
    clear hMr hB;obtain⟨i,rfl,rfl,hi1,hi2,hT,hMx,hBx⟩:=hrel
    cases gk with
    | zero=>
     have hin:¬((i:Int)<(R.length:Int)):=by omega
     have hie:i=R.length:=by omega
     have HT:=Lib.hid hT.out;rw[hie] at HT
     have Hcl:Hid (Qw R top from_ (k+1)):=Lib.hid (by
      intro j h1 h2 t h3 h4;rcases Nat.lt_or_ge j k with h5 | h5
      ·exact hC.out j h1 h5 t h3 h4
      ·have:j=k:=by omega
       subst this;exact HT.out t h3 h4)
     clear hie
     go_wp2
     go_roundg gh
     case rel=>exact⟨i,k+1,rfl,by go_num,rfl,by omega,by omega,Hcl,hMx,hBx⟩
     case measure=>omega
    | succ h=>
     have hin:(i:Int)<(R.length:Int):=by omega
     have hil:i<R.length:=by omega
     obtain⟨r,hr⟩:∃r,R[i]? =some r:=⟨R[i],List.getElem?_eq_getElem hil⟩
     have hc1:=hMx.out.cellRow hr;have hc3:=hMx.out.cellNum hr hlt;have hcap:=(hMx.out.row r (List.mem_of_getElem? hr)).2.2;have hblk:=(hMx.out.row r (List.mem_of_getElem? hr)).1.lt;have Hnum:=Lib.hid (We (j:=k) hr);unfold qy at hc1;obtain⟨rb,rc,rl⟩:=r;dsimp only at hc1 hc3 hcap hblk Hnum;have Hr:=Lib.hid hr;clear hr;generalize rl[k]?.getD 0=x at *
     go_wp2
     have HMr:=Lib.hid (fun (w4:World) (hb:Below wr.drew.heap.size wr.drew w4)=>(hMx.out.below (jh.dr hb)));have HBr:=Lib.hid (fun (w4:World) (hb:Below wr.drew.heap.size wr.drew w4)=>(hBx.trans ((jh.dr hb).mono hBx.size)));by_cases h0:(x==0)=true
     ·have Hnext:Hid (∀t,top≤t→t<i+1→zF R t k=0):=Lib.hid (by
       intro t h1 h2;rcases Nat.lt_or_ge t i with h3 | h3
       ·exact hT.out t h1 h3
       ·have:t=i:=by omega
        subst this;rw[Hnum.out];simpa using h0)
      go_region_with (go_at_call 319;go_split_ands;refine(HZ.out x _).mono ?_;rintro e w4 ⟨rfl,hB4⟩)
      all_goals (
       have HM4:=Lib.hid (HMr.out _ hB4);have HB4:=HBr.out _ hB4;clear hB4
       go_wp2
       go_roundg h
       case rel=>exact⟨i+1,by go_num,rfl,by omega,by omega,Hnext,HM4,HB4⟩
       case measure=>omega)
     ·have h0':(x==0)=false:=by simpa using h0
      have Hx:Hid (zF R i k≠0):=Lib.hid (by rw[Hnum.out];simpa using h0);clear h0
      go_region_with (go_at_call 319;go_split_ands;refine(HZ.out x _).mono ?_;rintro e w4 ⟨rfl,hB4⟩)
      all_goals (
       have HB4:=HBr.out _ hB4;clear hB4
       go_wp2
       rw[Exit.noGoto_ret];go_ret3
       exact⟨HB4,Or.inl ⟨i,k,rfl,hi1,hil,hk1,hlt,Hx.out,fun t h1 h2=>hT.out t h1 h2,hC.out⟩⟩)
end Go.Proofs.YtneafcdfnhnpnaaGreatDoor
namespace Go.Proofs.YtneafcdfnhnpnaaGreatDoor
structure Fd (T:Type) where
 z:T
 isZ:T→Bool
 sub:T→T→T
 mul:T→T→T
 div:T→T→T
abbrev jZ (T:Type):=Nat×Nat×List T
section
variable {T:Type} (F:Fd T)
def xJ (R:List (jZ T)) (i:Nat):List T:=(R[i]?.map (·.2.2)).getD []
def kB (R:List (jZ T)) (i j:Nat):T:=(xJ R i)[j]?.getD F.z
def setRow (R:List (jZ T)) (i:Nat) (L:List T):List (jZ T):=R.modify i fun r=>(r.1,r.2.1,L)
def qu {α:Type} (R:List α) (i j:Nat):List α:=
 match R[i]?,R[j]? with
 | some a,some b=>(R.set i b).set j a
 | _,_=>R
def kR (d:T) (o:Nat) (L:List T):List T:=L.mapIdx fun j x=>if o≤j then (if F.isZ x=true then x else F.div x d) else x
def yD (o:Nat) (L P:List T):List T:=
 if F.isZ (L[o]?.getD F.z)=true then L else L.mapIdx fun j y=>if o≤j then (if F.isZ (P[j]?.getD F.z)=true then y else F.sub y (F.mul (L[o]?.getD F.z) (P[j]?.getD F.z))) else y
def kz (top o:Nat) (P:List T) (R:List (jZ T)) (k:Nat):List (jZ T):=R.mapIdx fun i r=>if i<k∧i≠top then (r.1,r.2.1,yD F o r.2.2 P) else r
def yG (R:List (jZ T)) (j:Nat):Nat→Nat→Option Nat
 | 0,_=>none
 | k+1,i=>if F.isZ (kB F R i j)=true then yG R j k (i+1) else some i
def qN (R:List (jZ T)) (top:Nat):Nat→Nat→Option (Nat×Nat)
 | 0,_=>none
 | k+1,j=>match yG F R j (R.length-top) top with
  | some i=>some (i,j)
  | none=>qN R top k (j+1)
structure jP (T:Type) where
 rows:List (jZ T)
 cols:List Nat
 piv:List T
 odd:Bool
def qp (row:Nat) (S:jP T):List (jZ T):=if row=S.cols.length then S.rows else qu S.rows row S.cols.length
def elPiv (row col:Nat) (S:jP T):T:=kB F (qp row S) S.cols.length col
def elDiv (row col:Nat) (S:jP T):List (jZ T):=setRow (qp row S) S.cols.length (kR F (elPiv F row col S) col (xJ (qp row S) S.cols.length))
def kW (row col:Nat) (S:jP T):jP T:=
 ⟨kz F S.cols.length col (xJ (elDiv F row col S) S.cols.length) (elDiv F row col S) (elDiv F row col S).length,S.cols++[col],S.piv++[elPiv F row col S],if row=S.cols.length then S.odd else !S.odd⟩
def j3 (n:Nat):Nat→Nat→jP T→jP T
 | 0,_,S=>S
 | k+1,from_,S=>match qN F S.rows S.cols.length (n-from_) from_ with
  | none=>S
  | some (row,col)=>j3 n k (col+1) (kW F row col S)
end
section
variable {T:Type} {F:Fd T} {R:List (jZ T)}
theorem Tl {j i:Nat} (k s:Nat) (h1:s≤i) (h2:i<s+k) (h3:F.isZ (kB F R i j)=false) (h4:∀t,s≤t→t<i→F.isZ (kB F R t j)=true):yG F R j k s=some i:=by
 induction k generalizing s with
 | zero=>omega
 | succ k ih=>
  unfold yG;by_cases hs:s=i
  ·subst hs;rw[if_neg (by rw[h3];simp)]
  ·rw[if_pos (h4 s (Nat.le_refl _) (by omega))]
   exact ih (s+1) (by omega) (by omega) (fun t a b=>h4 t (by omega) b)
theorem Vj {j:Nat} (k s:Nat) (h4:∀t,s≤t→t<s+k→F.isZ (kB F R t j)=true):yG F R j k s=none:=by
 induction k generalizing s with
 | zero=>rfl
 | succ k ih=>
  unfold yG;rw[if_pos (h4 s (Nat.le_refl _) (by omega))];exact ih (s+1) (fun t a b=>h4 t (by omega) (by omega))
theorem Wq {top i j:Nat} (k s:Nat) (h1:s≤j) (h2:j<s+k) (ht:top≤i) (hi:i<R.length) (h3:F.isZ (kB F R i j)=false) (h4:∀t,top≤t→t<i→F.isZ (kB F R t j)=true)
  (h5:∀c,s≤c→c<j → ∀t,top≤t→t<R.length→F.isZ (kB F R t c)=true):qN F R top k s=some (i,j):=by
 induction k generalizing s with
 | zero=>omega
 | succ k ih=>
  unfold qN;by_cases hs:s=j
  ·subst hs;rw[Tl _ _ ht (by omega) h3 h4]
  ·rw[Vj _ _ (fun t a b=>h5 s (Nat.le_refl _) (by omega) t a (by omega))]
   exact ih (s+1) (by omega) (by omega) (fun c a b=>h5 c (by omega) b)
theorem Wp {top:Nat} (k s:Nat) (h5:∀c,s≤c→c<s+k → ∀t,top≤t→t<R.length→F.isZ (kB F R t c)=true):qN F R top k s=none:=by
 induction k generalizing s with
 | zero=>rfl
 | succ k ih=>
  unfold qN;rw[Vj _ _ (fun t a b=>h5 s (Nat.le_refl _) (by omega) t a (by omega))];exact ih (s+1) (fun c a b=>h5 c (by omega) (by omega))
theorem ZK {α:Type} {R:List α} {i j:Nat} {a b:α} (hi:R[i]? =some a) (hj:R[j]? =some b):qu R i j=(R.set i b).set j a:=by
 unfold qu;rw[hi,hj]
theorem GN {α:Type} (R:List α) (i j:Nat):(qu R i j).length=R.length:=by
 unfold qu;split <;> simp
theorem ZJ {α:Type} {R:List α} {i j:Nat} {x:α} (h:x∈qu R i j):x∈R:=by
 unfold qu at h;split at h
 ·rename_i a b ha hb
  rcases List.mem_or_eq_of_mem_set h with h | rfl
  ·rcases List.mem_or_eq_of_mem_set h with h | rfl
   ·exact h
   ·exact List.mem_of_getElem? hb
  ·exact List.mem_of_getElem? ha
 ·exact h
theorem XN {α:Type} (R:List α) (i j:Nat):List.Perm (qu R i j) R:=by
 unfold qu;split
 ·rename_i a b ha hb
  obtain⟨hi,rfl⟩:=List.getElem?_eq_some_iff.1 ha;obtain⟨hj,rfl⟩:=List.getElem?_eq_some_iff.1 hb;exact List.set_set_perm hi hj
 ·exact List.Perm.refl _
theorem GO {α:Type} {R:List α} {i j:Nat} {a b:α} (hi:R[i]? =some a) (hj:R[j]? =some b):(qu R i j)[j]? =some a:=by
 rw[ZK hi hj,List.getElem?_set_self (by rw[List.length_set];exact(List.getElem?_eq_some_iff.1 hj).1)]
theorem ZA (i:Nat) (L:List T):(setRow R i L).length=R.length:=by simp[setRow]
theorem xt {i:Nat} {r:jZ T} (h:R[i]? =some r) (L:List T):(setRow R i L)[i]? =some (r.1,r.2.1,L):=by simp[setRow,h]
theorem zH {i k:Nat} (h:i≠k) (L:List T):(setRow R i L)[k]? =R[k]? :=by simp[setRow,h]
theorem Ql (i:Nat) (L:List T):(setRow R i L).map (·.1)=R.map (·.1):=by
 apply List.ext_getElem?;intro k;simp only[setRow,List.getElem?_map,List.getElem?_modify]
 cases R[k]? with
 | none=>rfl
 | some r=>by_cases h:i=k <;> simp[h]
theorem Gs (i:Nat) (L:List T) {β:Type} (f:Nat→Nat→β):(setRow R i L).map (fun r=>f r.1 r.2.1)=R.map (fun r=>f r.1 r.2.1):=by
 apply List.ext_getElem?;intro k;simp only[setRow,List.getElem?_map,List.getElem?_modify]
 cases R[k]? with
 | none=>rfl
 | some r=>by_cases h:i=k <;> simp[h]
theorem Co {i:Nat} {L:List T} {x:jZ T} (h:x∈setRow R i L):(x∈R)∨(∃r∈R,R[i]? =some r∧x=(r.1,r.2.1,L)):=by
 obtain⟨k,hk⟩:=List.mem_iff_getElem?.1 h;by_cases h:i=k
 ·subst h
  cases hr:R[i]? with
  | none=>simp[setRow,hr] at hk
  | some r=>rw[xt hr] at hk;exact .inr ⟨r,List.mem_of_getElem? hr,rfl,(Option.some.inj hk).symm⟩
 ·rw[zH h] at hk;exact .inl (List.mem_of_getElem? hk)
theorem Cp {i:Nat} {r:jZ T} (h:R[i]? =some r):setRow R i r.2.2=R:=by
 apply List.ext_getElem?;intro k;by_cases hk:i=k
 ·subst hk;rw[xt h,h]
 ·rw[zH hk]
theorem zf {i:Nat} {r:jZ T} (h:R[i]? =some r):xJ R i=r.2.2:=by unfold xJ;rw[h];rfl
variable {top o:Nat} {P:List T}
theorem Yr:kz F top o P R 0=R:=by
 apply List.ext_getElem?;intro k;simp only[kz,List.getElem?_mapIdx,Nat.not_lt_zero,false_and,if_false];cases R[k]? <;> rfl
theorem QR (k:Nat):(kz F top o P R k)[k]? =R[k]? :=by
 simp only[kz,List.getElem?_mapIdx,Nat.lt_irrefl,false_and,if_false];cases R[k]? <;> rfl
theorem Yq (k:Nat):(kz F top o P R k)[top]? =R[top]? :=by
 simp only[kz,List.getElem?_mapIdx,ne_eq,not_true,and_false,if_false];cases R[top]? <;> rfl
theorem Yo:kz F top o P R (top+1)=kz F top o P R top:=by
 apply List.ext_getElem?;intro k;simp only[kz,List.getElem?_mapIdx]
 cases R[k]? with
 | none=>rfl
 | some r=>
  simp only[Option.map_some,Option.some.injEq];by_cases h:k<top
  ·rw[if_pos ⟨by omega,by omega⟩,if_pos ⟨h,by omega⟩]
  ·rw[if_neg (by omega),if_neg (by omega)]
theorem Yp {k:Nat} (hk:k≠top) {r:jZ T} (hr:R[k]? =some r):setRow (kz F top o P R k) k (yD F o r.2.2 P)=kz F top o P R (k+1):=by
 apply List.ext_getElem?;intro j;by_cases hj:k=j
 ·subst hj
  rw[xt (QR k ▸ hr)];simp only[kz,List.getElem?_mapIdx,hr,Option.map_some,Option.some.injEq];rw[if_pos ⟨by omega,hk⟩]
 ·rw[zH hj]
  simp only[kz,List.getElem?_mapIdx]
  cases R[j]? with
  | none=>rfl
  | some q=>
   simp only[Option.map_some,Option.some.injEq];by_cases h:j<k∧j≠top
   ·rw[if_pos h,if_pos ⟨by omega,h.2⟩]
   ·rw[if_neg h,if_neg (by omega)]
theorem J6 (d:T) (o:Nat) (L:List T):(kR F d o L).length=L.length:=by simp[kR]
theorem Yn (o:Nat) (L P:List T):(yD F o L P).length=L.length:=by unfold yD;split <;> simp
end
def ke {T:Type} (f:List T→List T) (R:List (jZ T)) (k:Nat):List (jZ T):=R.mapIdx fun i r=>if i<k then (r.1,r.2.1,f r.2.2) else r
section
variable {T:Type} {f:List T→List T} {R:List (jZ T)}
theorem KZ (k:Nat):(ke f R k).length=R.length:=by simp[ke]
theorem Xj:ke f R 0=R:=by
 apply List.ext_getElem?;intro k;simp only[ke,List.getElem?_mapIdx,Nat.not_lt_zero,if_false];cases R[k]? <;> rfl
theorem Xi (k:Nat):(ke f R k)[k]? =R[k]? :=by
 simp only[ke,List.getElem?_mapIdx,Nat.lt_irrefl,if_false];cases R[k]? <;> rfl
theorem Y8 {k:Nat} {r:jZ T} (hr:R[k]? =some r):setRow (ke f R k) k (f r.2.2)=ke f R (k+1):=by
 apply List.ext_getElem?;intro j;by_cases hj:k=j
 ·subst hj
  rw[xt (Xi k ▸ hr)];simp only[ke,List.getElem?_mapIdx,hr,Option.map_some,Option.some.injEq];rw[if_pos (by omega)]
 ·rw[zH hj]
  simp only[ke,List.getElem?_mapIdx]
  cases R[j]? with
  | none=>rfl
  | some q=>
   simp only[Option.map_some,Option.some.injEq];by_cases h:j<k
   ·rw[if_pos h,if_pos (by omega)]
   ·rw[if_neg h,if_neg (by omega)]
theorem Y7:ke f R R.length=R.map fun r=>(r.1,r.2.1,f r.2.2):=by
 apply List.ext_getElem?;intro j;simp only[ke,List.getElem?_mapIdx,List.getElem?_map];rcases Nat.lt_or_ge j R.length with h | h
 ·rw[List.getElem?_eq_getElem h];simp[h]
 ·rw[List.getElem?_eq_none h];rfl
theorem VU (k:Nat):(ke f R k).map (·.1)=R.map (·.1):=by
 apply List.ext_getElem?;intro j;simp only[ke,List.getElem?_map,List.getElem?_mapIdx]
 cases R[j]? with
 | none=>rfl
 | some r=>by_cases h:j<k <;> simp[h]
def nsSet (F:Fd T) (zero:T) (S:jP T) (col k:Nat) (L:List T):List T:=(List.range k).foldl (fun l i=>l.set (S.cols[i]?.getD 0) (F.sub zero (kB F S.rows i col))) L
def zE (F:Fd T) (zero one:T) (n:Nat) (S:jP T) (col:Nat):List T:=(nsSet F zero S col S.cols.length ((List.replicate n zero).set col one)).reverse
def nsBasis (F:Fd T) (zero one:T) (n:Nat) (S:jP T):Nat→List (List T)
 | 0=>[]
 | k+1=>nsBasis F zero one n S k++(if S.cols.contains (n-1-k)=true then [] else [zE F zero one n S (n-1-k)])
theorem z8 (F:Fd T) (zero:T) (S:jP T) (col k:Nat) (L:List T):(nsSet F zero S col k L).length=L.length:=by
 induction k with
 | zero=>rfl
 | succ k ih=>unfold nsSet at *;rw[List.range_succ,List.foldl_append];simp[ih]
theorem K5 (F:Fd T) (zero:T) (S:jP T) (col k:Nat) (L:List T):nsSet F zero S col (k+1) L=(nsSet F zero S col k L).set (S.cols[k]?.getD 0) (F.sub zero (kB F S.rows k col)):=by
 unfold nsSet;rw[List.range_succ,List.foldl_append];rfl
end
section
variable {T:Type} {F:Fd T} {R:List (jZ T)}
theorem Tk {j i:Nat} (k s:Nat) (h:yG F R j k s=some i):s≤i∧i<s+k∧F.isZ (kB F R i j)=false:=by
 induction k generalizing s with
 | zero=>cases h
 | succ k ih=>
  unfold yG at h;split at h
  ·have:=ih (s+1) h;exact⟨by omega,by omega,this.2.2⟩
  ·rename_i hz
   obtain rfl:=Option.some.inj h;exact⟨Nat.le_refl _,by omega,by simpa using hz⟩
theorem D8 {top i j:Nat} (k s:Nat) (h:qN F R top k s=some (i,j)):s≤j∧j<s+k∧top≤i∧i<R.length∧F.isZ (kB F R i j)=false:=by
 induction k generalizing s with
 | zero=>cases h
 | succ k ih=>
  unfold qN at h;split at h
  ·rename_i x hx
   simp only[Option.some.injEq,Prod.mk.injEq] at h;obtain⟨rfl,rfl⟩:=h;have:=Tk _ _ hx;exact⟨Nat.le_refl _,by omega,this.1,by omega,this.2.2⟩
  ·have:=ih (s+1) h;exact⟨by omega,by omega,this.2.2⟩
theorem YH {n:Nat} (k fr:Nat) (S:jP T) (hfr:fr≤n) (h:∀c∈S.cols,c<fr):∀c∈(j3 F n k fr S).cols,c<n:=by
 induction k generalizing fr S with
 | zero=>exact fun c hc=>Nat.lt_of_lt_of_le (h c hc) hfr
 | succ k ih=>
  unfold j3;split
  ·exact fun c hc=>Nat.lt_of_lt_of_le (h c hc) hfr
  ·rename_i row col hp
   have hb:=D8 _ _ hp;refine ih (col+1) _ (by omega) ?_;intro c hc;simp only[kW,List.mem_append,List.mem_singleton] at hc;rcases hc with hc | rfl
   ·have:=h c hc;omega
   ·omega
end
end Go.Proofs.YtneafcdfnhnpnaaGreatDoor
namespace Go.Proofs.YtneafcdfnhnpnaaGreatDoor
open Go.RowKit
noncomputable def jC (p:Int):Fd Int:=⟨0,fun x=>x==0,fun a b=>(a-b)%p,fun a b=>a*b%p,K9 p⟩
theorem UY (p d:Int) (o n:Nat) (L:List Int) (h:o+n=L.length):kT (y5 p d) o n L=kR (jC p) d o L:=by
 unfold kT kR;apply List.ext_getElem?;intro j;simp only[List.getElem?_mapIdx];rcases Nat.lt_or_ge j L.length with hl | hl
 ·rw[List.getElem?_eq_getElem hl]
  simp only[Option.map_some,Option.some.injEq];by_cases h2:o≤j
  ·rw[if_pos ⟨h2,by omega⟩,if_pos h2];simp[y5,jC]
  ·rw[if_neg (by omega),if_neg h2]
 ·rw[List.getElem?_eq_none hl];rfl
theorem UE (p:Int) (o n:Nat) (L P:List Int) (h:o+n=L.length):J4 p o n L o P=yD (jC p) o L P:=by
 unfold J4 yD;have hz:(jC p).z=0:=rfl
 have hi:∀x,((jC p).isZ x=true)=(x=0):=fun x=>by simp[jC]
 rw[hz];simp only[hi];split
 ·rfl
 ·unfold xw
  apply List.ext_getElem?;intro j;simp only[List.getElem?_mapIdx];rcases Nat.lt_or_ge j L.length with hl | hl
  ·rw[List.getElem?_eq_getElem hl]
   simp only[Option.map_some,Option.some.injEq];by_cases h2:o≤j
   ·rw[if_pos ⟨h2,by omega⟩,if_pos h2,show o+(j-o)=j by omega];simp[zI,jC]
   ·rw[if_neg (by omega),if_neg h2]
  ·rw[List.getElem?_eq_none hl];rfl
structure jO (s:List Nat) (w w':World):Prop where
 os:w'.os=w.os
 tape:w'.tape=w.tape
 output:w'.output=w.output
 size:w.heap.size≤w'.heap.size
 block:∀k,k<w.heap.size→k ∉ s→w'.heap[k]? =w.heap[k]?
section
variable {s:List Nat} {a b c:World}
theorem jO.refl (s:List Nat) (w:World):jO s w w:=⟨rfl,rfl,rfl,Nat.le_refl _,fun _ _ _=>rfl⟩
theorem jO.trans (h:jO s a b) (k:jO s b c):jO s a c:=
 ⟨k.os.trans h.os,k.tape.trans h.tape,k.output.trans h.output,Nat.le_trans h.size k.size,fun i hi hg=>(k.block i (Nat.lt_of_lt_of_le hi h.size) hg).trans (h.block i hi hg)⟩
theorem jO.of_below (h:Below a.heap.size a b):jO s a b:=⟨h.os,h.tape,h.output,h.size,fun i hi _=>h.block i hi⟩
theorem jO.of_but {g:Nat} (h:jh g a b) (hg:g∈s):jO s a b:=⟨h.os,h.tape,h.output,h.size,fun i hi hn=>h.block i hi (fun e=>hn (e ▸ hg))⟩
theorem jO.below (h:jO s a b) (k:Below b.heap.size b c):jO s a c:=h.trans (jO.of_below k)
theorem jO.but {g:Nat} (h:jO s a b) (k:jh g b c) (hg:g∈s):jO s a c:=h.trans (jO.of_but k hg)
theorem jO.setCell (h:jO s a b) (p:Addr) (hp:p.block∈s) (u:Value):jO s a (b.setCell p u):=
 h.trans ⟨rfl,rfl,rfl,by simp[World.setCell],fun k _ hg=>Below.heap_setCell _ _ _ _ (fun e=>hg (e ▸ hp))⟩
theorem jO.setNew (h:jO s a b) (p:Addr) (hp:a.heap.size≤p.block) (u:Value):jO s a (b.setCell p u):=
 ⟨h.os,h.tape,h.output,Nat.le_trans h.size (by simp[World.setCell]),fun k hk hg=>(Below.heap_setCell _ _ _ _ (by omega)).trans (h.block k hk hg)⟩
theorem jO.drew (h:jO s a b):jO s a b.drew:=⟨h.os,h.tape,h.output,h.size,h.block⟩
theorem jO.grown (h:jO s a b) {row:Option Nat} (hg:b.grownBy c row) (hr:∀k,row=some k→a.heap.size≤k):jO s a c:=
 ⟨hg.os.trans h.os,hg.tape.trans h.tape,hg.output.trans h.output,Nat.le_trans h.size hg.size,
  fun i hi hs=>(hg.block i (Nat.lt_of_lt_of_le hi h.size) (fun e=>by have:=hr i e.symm;omega)).trans (h.block i hi hs)⟩
theorem ja.grown {g:Nat} {t:TypeId} {cs:List Value} {row:Option Nat} (o:ja a g t cs) (hg:a.grownBy b row) (hr:row≠some g):ja b g t cs:=
 (hg.block g o.lt (fun e=>hr e.symm)).trans o
theorem xh {base:Nat} {e:TypeId} {size:Nat} {v:Value} {n:Nat} {xs:List Value} (h:a.ownsRow base e size v n xs) (hk:∀k,k<a.heap.size→v.ownBlock=some k→b.heap[k]? =a.heap[k]?):b.ownsRow base e size v n xs:=by
 refine⟨h.1,?_⟩
 rcases h.2 with hn | ⟨g,cap,cur,rfl,hb,hgg,rest⟩
 ·exact .inl hn
 ·exact .inr ⟨g,cap,cur,rfl,hb,(hk g (Array.getElem?_eq_some_iff.1 hgg).1 rfl).trans hgg,rest⟩
theorem kC {base:Nat} {e:TypeId} {size:Nat} {v:Value} {n:Nat} {xs:List Value} (h:a.ownsRow base e size v n xs) (hb:Below a.heap.size a b):b.ownsRow base e size v n xs:=
 xh h fun k hk _=>hb.block k hk
theorem K6 {base:Nat} {e:TypeId} {size:Nat} {v:Value} {n:Nat} {xs:List Value} (h:a.ownsRow base e size v n xs) {g:Nat} (hb:jh g a b) (hg:g<base):b.ownsRow base e size v n xs:=
 xh h fun k hk hv=>hb.block k hk (by have:=(h.lt k hv).1;omega)
theorem yf {base:Nat} {e:TypeId} {size:Nat} {v:Value} {n:Nat} {xs:List Value} (h:a.ownsRow base e size v n xs) (p:Addr) (hp:p.block<base) (u:Value):(a.setCell p u).ownsRow base e size v n xs:=
 xh h fun k _ hv=>Below.heap_setCell _ _ _ _ (by have:=(h.lt k hv).1;omega)
end
theorem Ze {R:List jS} (h:(R.map (·.1)).Nodup) {i j:Nat} {a b:jS} (hi:R[i]? =some a) (hj:R[j]? =some b) (hij:i≠j):a.1≠b.1:=by
 intro e
 have h1:(R.map (·.1))[i]? =some a.1:=by rw[List.getElem?_map,hi];rfl
 have h2:(R.map (·.1))[j]? =some a.1:=by rw[List.getElem?_map,hj,e];rfl
 exact hij ((List.getElem?_inj (List.getElem?_eq_some_iff.1 h1).1 h).1 (h1.trans h2.symm))
section
variable {w w':World} {g n:Nat} {R:List jS}
theorem kd.gne (h:kd w g R n) {r:jS} (hr:r∈R):g≠r.1:=h.own.apart (h.row r hr).1 (by decide)
theorem kd.setRow (h:kd w g R n) {i:Nat} {r:jS} (hr:R[i]? =some r) {L:List Int} (hO:ja w' r.1 2 (jc L)) (hl:L.length=n) (hb:jh r.1 w w'):kd w' g (setRow R i L) n:=by
 refine⟨?_,?_,?_⟩
 ·have e:(Go.Proofs.YtneafcdfnhnpnaaGreatDoor.setRow R i L).map (qy n)=R.map (qy n):=Gs i L (fun b c=>Value.slice (some ⟨b,0,none⟩) n c)
  rw[e];exact h.own.but hb (h.gne (List.mem_of_getElem? hr))
 ·intro x hx
  obtain⟨k,hk⟩:=List.mem_iff_getElem?.1 hx;by_cases hik:i=k
  ·subst hik
   rw[xt hr] at hk;obtain rfl:=Option.some.inj hk;have:=h.row r (List.mem_of_getElem? hr);exact⟨hO,hl,this.2.2.1,this.2.2.2⟩
  ·rw[zH hik] at hk
   have:=h.row x (List.mem_of_getElem? hk);exact⟨this.1.but hb (Ze h.apart hk hr (fun e=>hik e.symm)),this.2⟩
 ·rw[Ql];exact h.apart
theorem kd.swap (h:kd w g R n) {i j:Nat} {a b:jS} (hi:R[i]? =some a) (hj:R[j]? =some b):kd ((w.setCell ⟨g,i,none⟩ (qy n b)).setCell ⟨g,j,none⟩ (qy n a)) g (qu R i j) n:=by
 refine⟨?_,?_,?_⟩
 ·rw[ZK hi hj,List.map_set,List.map_set]
  exact(h.own.put _ _).put _ _
 ·intro x hx
  have hx:=ZJ hx;have:=h.row x hx;exact⟨(this.1.other (p:=⟨g,i,none⟩) (fun e=>h.gne hx e.symm) _).other (p:=⟨g,j,none⟩) (fun e=>h.gne hx e.symm) _,this.2⟩
 ·exact((XN R i j).map _).nodup_iff.2 h.apart
theorem kd.keep (h:kd w g R n) (hk:∀k,k=g∨k∈R.map (·.1)→w'.heap[k]? =w.heap[k]?):kd w' g R n:=
 ⟨(hk g (.inl rfl)).trans h.own,fun r hr=>⟨(hk r.1 (.inr (List.mem_map_of_mem hr))).trans (h.row r hr).1,(h.row r hr).2⟩,h.apart⟩
theorem kd.lt (h:kd w g R n) {k:Nat} (hk:k=g∨k∈R.map (·.1)):k<w.heap.size:=by
 rcases hk with rfl | hk
 ·exact h.own.lt
 ·obtain⟨r,hr,rfl⟩:=List.mem_map.1 hk
  exact(h.row r hr).1.lt
end
def xN (p:Int) (R:List jS):Prop:=∀r∈R,∀x∈r.2.2,0≤x∧x<p
theorem xN.swap {p:Int} {R:List jS} (h:xN p R) (i j:Nat):xN p (qu R i j):=fun r hr=>h r (ZJ hr)
theorem xN.set {p:Int} {R:List jS} (h:xN p R) (i:Nat) {L:List Int} (hL:∀x∈L,0≤x∧x<p):xN p (setRow R i L):=by
 intro r hr
 rcases Co hr with hr | ⟨q,_,_,rfl⟩
 ·exact h r hr
 ·exact hL
theorem VS {α:Type} {Q:α→Prop} {f:Nat→α→α} {L:List α} (h:∀j x,x∈L→Q (f j x)):∀x∈L.mapIdx f,Q x:=by
 intro x hx;obtain⟨k,hk⟩:=List.mem_iff_getElem?.1 hx;rw[List.getElem?_mapIdx] at hk
 cases hL:L[k]? with
 | none=>rw[hL] at hk;cases hk
 | some y=>rw[hL] at hk;obtain rfl:=Option.some.inj hk;exact h k y (List.mem_of_getElem? hL)
theorem QX {p:Int} (hp:0<p) (d:Int) (o:Nat) {L:List Int} (h:∀x∈L,0≤x∧x<p):∀x∈kR (jC p) d o L,0≤x∧x<p:=by
 refine VS fun j x hx=> ?_
 split
 ·split
  ·exact h x hx
  ·exact⟨Int.emod_nonneg _ (by omega),Int.emod_lt_of_pos _ hp⟩
 ·exact h x hx
theorem UF {p:Int} (hp:0<p) (o:Nat) {L P:List Int} (h:∀x∈L,0≤x∧x<p):∀x∈yD (jC p) o L P,0≤x∧x<p:=by
 unfold yD;split
 ·exact h
 ·refine VS fun j x hx=> ?_
  split
  ·split
   ·exact h x hx
   ·exact⟨Int.emod_nonneg _ (by omega),Int.emod_lt_of_pos _ hp⟩
  ·exact h x hx
theorem j8 {w:World} {base:Nat} {e:TypeId} {size:Nat} {v:Value} {n:Nat} {xs:List Value} (h:w.ownsRow base e size v n xs):∃A c,v = .slice A n c∧n≤c∧c≤maxLen:=by
 rcases h.2 with ⟨rfl,rfl⟩ | ⟨g,cap,cur,rfl,_,_,h1,h2,_⟩
 ·exact⟨none,0,rfl,Nat.le_refl _,by unfold maxLen;omega⟩
 ·exact⟨_,_,rfl,h1,h2⟩
theorem ja.four {w:World} {g:Nat} {t:TypeId} {a b c d:Value} (h:ja w g t [a,b,c,d]):
  w.cell? ⟨g,0,none⟩=some a∧w.cell? ⟨g,1,none⟩=some b∧w.cell? ⟨g,2,none⟩=some c∧w.cell? ⟨g,3,none⟩=some d∧w.frozen? ⟨g,0,none⟩=false∧w.frozen? ⟨g,1,none⟩=false∧w.frozen? ⟨g,2,none⟩=false∧w.frozen? ⟨g,3,none⟩=false:=
 ⟨h.cell 0,h.cell 1,h.cell 2,h.cell 3,h.free 0,h.free 1,h.free 2,h.free 3⟩
def Nw (c:Int) (l:List Int) (w:World) (e:Ending) (w':World):Prop:=
 (if c=0 then ∃v,e = .returned (.tuple #[v,.int .i64 0])∧Sl w' 1 v (jc l) else e = .returned (.tuple #[.slice none 0 0,.int .i64 c]))∧Below w.heap.size w w'
