/- Contract: clearFirst over the residues. -/
import Derived.Test.YteagkgagdelklaaGreatDoorZT05
set_option maxRecDepth 100000
set_option maxHeartbeats 4000000
namespace Go.Proofs.YteagkgagdelklaaGreatDoor
open Go.RowKit
def xU (g:Int→Int→Int) (o k:Nat) (L:List Int) (o2:Nat) (P:List Int):List Int:=L.mapIdx fun j y=>if o≤j∧j<o+k then g y (P[o2+(j-o)]?.getD 0) else y
section
variable (g:Int→Int→Int) (o k:Nat) (L:List Int) (o2:Nat) (P:List Int)
theorem Rj:(xU g o k L o2 P).length=L.length:=by simp[xU]
theorem Ii:xU g o 0 L o2 P=L:=by
 apply Qaw;intro j;simp only[xU,Qaj,Qbf]
 cases L[j]? with
 | none=>rfl
 | some x=>simp only[QaC];rw[if_neg (by omega)]
theorem Rh:(xU g o k L o2 P)[o+k]? =L[o+k]? :=by
 simp only[xU,Qaj,Qb8,and_false,Qcf];cases L[o+k]? <;> simp
theorem Rk (h:o+k<L.length):(xU g o k L o2 P).set (o+k) (g (L[o+k]?.getD 0) (P[o2+k]?.getD 0))=xU g o (k+1) L o2 P:=by
 apply Qaw;intro j;rw[QbG];simp only[xU,Qaj,List.length_mapIdx];by_cases hj:o+k=j
 ·subst hj;simp[h,Nat.add_sub_cancel_left]
 ·rw[if_neg hj]
  rcases Qae j L.length with hl | hl
  ·rw[Qaa hl]
   simp only[QaC,QaT];by_cases h2:o≤j∧j<o+k
   ·rw[if_pos h2,if_pos (by omega)]
   ·rw[if_neg h2,if_neg (by omega)]
  ·rw[Qah hl];rfl
theorem Ih (h:o+k<L.length) (hf:g (L[o+k]?.getD 0) (P[o2+k]?.getD 0)=L[o+k]?.getD 0):xU g o (k+1) L o2 P=xU g o k L o2 P:=by
 rw[←Rk g o k L o2 P h,hf];apply Qaw;intro j;rw[QbG,Rj];by_cases hj:o+k=j
 ·subst hj;rw[Rh];simp[h]
 ·rw[if_neg hj]
end
def Ji (p f y x:Int):Int:=if x=0 then y else (y-f*x%p)%p
def KE (p:Int) (o n:Nat) (L:List Int) (o2:Nat) (P:List Int):List Int:=if L[o]?.getD 0=0 then L else xU (Ji p (L[o]?.getD 0)) o n L o2 P
theorem Gm (p:Int) (w:World):(nilAhead 397 117 (.agg #[.int .i64 p]) "talisman/algebra.minus").run Tryz.prog w = .ok (some false) w:=by kernel_rfl
theorem AN (p:Int) (w:World):(nilAhead 397 117 (.agg #[.int .i64 p]) "talisman/algebra.isZero").run Tryz.prog w = .ok (some false) w:=by kernel_rfl
theorem jk.drew {g:Nat} {a b:World} (h:jk g a b):jk g a b.drew:=⟨h.os,h.tape,h.output,h.size,h.block⟩
theorem jk.dr {a b:World} (h:Below a.drew.heap.size a.drew b):Below a.heap.size a b:=⟨h.os,h.tape,h.output,h.size,h.block⟩
theorem Vy (p:Int) (w:World) (b o n c b2 o2 c2:Nat) (L P:List Int) (hO:ja w b 2 (je L)) (hQ:ja w b2 2 (je P)) (hbb:b2≠b) (hn0:0<n) (hn:o+n=L.length) (hn2:o2+n=P.length) (hc1:n≤c) (hc2:c≤1000000) (hd1:n≤c2) (_hd2:c2≤1000000)
  (hp:PF p) (hL:∀x∈L,0≤x∧x<p) (hP:∀x∈P,0≤x∧x<p):
  Calls Tryz.prog 150 #[.iface 117 (.agg #[.int .i64 p]),.slice (some ⟨b,o,none⟩) n c,.slice (some ⟨b2,o2,none⟩) n c2] w fun e w'=>
   e = .returned (.tuple #[])∧ja w' b 2 (je (KE p o n L o2 P))∧jk b w w':=by
 have hZ:=ZB p;have hM:=Gl p;have hT:=Pq p;have hmn:=Gm p
 have hmf:∀(fn:Fn) (first cap:Array Value) (w:World),(Instr.makeFunc fn first cap).run Tryz.prog w = .ok (.func fn first cap) w:=fun _ _ _ _=>rfl
 have HZ:=Lib.hid (fun (x:Int) W=>Uu p x W);have hp1:=hp.1;have hp2:=hp.2.1;have HT:=Lib.hid (fun (x y:Int) W hx hy=>MM p x y W (by omega) hp2 hx hy);have HM:=Lib.hid (fun (x y:Int) W hx hy=>MG p x y W (by omega) hp2 hx hy);have HL:=Lib.hid hL;have HP:=Lib.hid hP;have Hn:=Lib.hid hn;have Hn2:=Lib.hid hn2;have hb:b<w.heap.size:=hO.lt;have hck:=(hO.cell o).trans (kz _ o (by omega));have hf:=hL (L[o]?.getD 0) (by rw[Qaa (by omega)];exact Qay (by omega));have hfr0:=hO.free o;have HC:=Lib.hid (rfl:KE p o n L o2 P=KE p o n L o2 P)
 conv at HC=>rhs;rhs;unfold KE
 clear hp hL hP;generalize hf0:L[o]?.getD 0=f at *;clear hf0;by_cases h0:(f==0)=true
 ·have HC':=Lib.hid (HC.out.trans (if_pos (by simpa using h0)))
  clear hn hn2 HC;go_enter Tryz.func150,Tryz.ntmps150
  go_wp2_with fail
  refine(HZ.out _ _).mono ?_;rintro e w2 ⟨rfl,hB2⟩;have hO2:=hO.below hB2 hO.lt;have hB:=jk.of_below (g:=b) hB2;clear hck hfr0 hO hQ hB2
  go_wp2
  (try simp only[Exit.inBlock,Exit.then]);refine bodyPost_ret (results_none rfl _ _ _) rfl ?_
  exact⟨rfl,by rw[HC'.out];exact hO2,hB⟩
 ·have h0':(f==0)=false:=by simpa using h0
  have HC':=Lib.hid (HC.out.trans (if_neg (by simpa using h0)))
  have hstart:ja w b 2 (je (xU (Ji p f) o 0 L o2 P)):=by rw[Ii];exact hO
  clear hn hn2 HC h0 hO;go_enter Tryz.func150,Tryz.ntmps150
  go_wp2_with fail
  refine(HZ.out _ _).mono ?_;rintro e w2 ⟨rfl,hB2⟩;have hst:=hstart.below hB2 hb;have hB0:=jk.of_below (g:=b) hB2;have hQ2:=hQ.below hB2 hQ.lt;clear hck hfr0 hB2 hstart hQ
  go_wp2_with fail
  go_loopw [7,8,17] (fun _ _ i wr=>∃(k:Nat),i = .int .i64 k∧k≤n∧ja wr b 2 (je (xU (Ji p f) o k L o2 P))∧ja wr b2 2 (je P)∧jk b w wr) (fun _ _ i _=>n-(intOf i).toNat)
  case atStart=>exact⟨0,rfl,by omega,hst,hQ2,hB0⟩
  case round=>
   clear hst hB0 hQ2;obtain⟨k,rfl,hk,hO,hQ,hB⟩:=hrel;by_cases hlt:k<n
   ·have hck1:=(hQ.cell (o2+k)).trans (kz _ (o2+k) (by have:=Hn2.out;omega))
    have hck2:=(hO.cell (o+k)).trans (kz _ (o+k) (by rw[Rj];have:=Hn.out;omega));rw[Rh] at hck2;have hfr:=hO.free (o+k);have hx:=HP.out (P[o2+k]?.getD 0) (by have:=Hn2.out;rw[Qaa (by omega)];exact Qay (by omega));have hy:=HL.out (L[o+k]?.getD 0) (by have:=Hn.out;rw[Qaa (by omega)];exact Qay (by omega));have Hsame:=Lib.hid (Ih (Ji p f) o k L o2 P (by have:=Hn.out;omega));have Hsucc:=Lib.hid (Rk (Ji p f) o k L o2 P (by have:=Hn.out;omega));generalize P[o2+k]?.getD 0=x at *;generalize L[o+k]?.getD 0=y at *;by_cases h1:(x==0)=true
    ·have Hs:=Lib.hid (Hsame.out (by unfold Ji;rw[if_pos (by simpa using h1)]))
     go_wp2_with fail
     refine(HZ.out _ _).mono ?_;rintro e w3 ⟨rfl,hB2⟩;have hB':=hB.below hB2;have hO':=hO.below hB2 hO.lt;have hQ':=hQ.below hB2 hQ.lt;clear hck1 hck2 hfr hO hB hQ hx hB2
     go_wp2
     refine⟨⟨k+1,by go_num,by omega,?_,hQ',hB'⟩,by simp[intOf];omega⟩;rw[Hs.out];exact hO'
    ·have h1':(x==0)=false:=by simpa using h1
     have Hv:=Lib.hid (show Ji p f y x=(y-f*x)%p by unfold Ji;rw[if_neg (by simpa using h1)];simp);clear h1
     go_wp2_with fail
     refine(HZ.out _ _).mono ?_;rintro e w3 ⟨rfl,hB2⟩;have hB':=hB.below hB2;have hO':=hO.below hB2 hO.lt;have hQ':=hQ.below hB2 hQ.lt;have hb3:=hO'.lt;have hc3:w3.cell? ⟨b,o+k,none⟩=some (.int .i64 y):=(hB2.cell (p:=⟨b,o+k,none⟩) hO.lt).trans hck2;have hf3:w3.frozen? ⟨b,o+k,none⟩=false:=(hB2.frozen (p:=⟨b,o+k,none⟩) hO.lt).trans hfr;have hm:=Lib.hid <| And.intro (Qb7 (f*x) (show p≠0 by omega)) (QbS (f*x) (show 0<p by omega));have Hx:=Lib.hid hx;have Hy:=Lib.hid hy;have Hf:=Lib.hid hf;clear hck1 hck2 hfr hO hB hQ hB2 hx hy
     go_wp2
     go_region_with (first
       | (go_at_call 258;go_split_ands;refine(HT.out f x _ Hf.out Hx.out).mono ?_;rintro e w4 ⟨rfl,hB4⟩;have hc4:=(hB4.cell (p:=⟨b,o+k,none⟩) hb3).trans hc3;have hf4:=(hB4.frozen (p:=⟨b,o+k,none⟩) hb3).trans hf3;have hb4:b<w4.heap.size:=Qac hb3 hB4.size)
       | (go_at_call 255;go_split_ands;refine(HM.out y (f*x%p) _ Hy.out hm.out).mono ?_;rintro e w5 ⟨rfl,hB5⟩;have hc5:=(hB5.cell (p:=⟨b,o+k,none⟩) hb4).trans hc4;have hf5:=(hB5.frozen (p:=⟨b,o+k,none⟩) hb4).trans hf4))
     all_goals (
      have hB5':=((hB'.drew.trans (jk.of_below hB4)).below hB5)
      have hO5:=(hO'.below (jk.dr hB4) hb3).below hB5 hb4;have hQ5:=(hQ'.below (jk.dr hB4) hQ'.lt).below hB5 (Qac hQ'.lt hB4.size);clear hB4 hB5 hB' hO' hQ' hc3 hf3 hc4 hf4 hc5 hf5
      go_wp2
      refine⟨⟨k+1,by go_num,by omega,?_,hQ5.other (fun h=>hbb h) _,hB5'.setCell _ rfl _⟩,by simp[intOf];omega⟩
      rw[←Hsucc.out,Hv.out,←x6];exact hO5.put _ _)
   ·have hkk:k=n:=by omega
    subst hkk
    go_wp2
    go_end0
    exact⟨rfl,by rw[HC'.out];exact hO,hB⟩
