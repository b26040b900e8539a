/- Contracts of the reference: the parts of a number. -/
import Derived.Test.YteagkgagdelklaaGreatDoorZT26
set_option maxRecDepth 100000
set_option maxHeartbeats 16000000
namespace Go.Proofs.YteagkgagdelklaaGreatDoor
open Go.RowKit Go.Lib
def ya (x y:Int) (w:World) (e:Ending) (w':World):Prop:=∃v u,e = .returned (.tuple #[v,u])∧Ri w' v x∧Ri w' u y∧Below w.heap.size w w'
def R2 (w W:World):Prop:=Below w.heap.size w W∧W.heap.size=w.heap.size+2∧ja W w.heap.size 178 [.bool false,.slice none 0 0]∧ja W (w.heap.size+1) 178 [.bool false,.slice none 0 0]
theorem R2.mk (w:World):R2 w ((w.alloc (.cells #[.bool false,.slice none 0 0] 178)).alloc (.cells #[.bool false,.slice none 0 0] 178)):=
 ⟨((Below.refl _ _).alloc (Nat.le_refl _) _).alloc (by simp) _,by simp,(ja.make w _ [.bool false,.slice none 0 0]).alloc _,QJ⟩
def C2 (w z:World):Prop:=(z.cell? ⟨w.heap.size,0,none⟩=some (.bool false)∧z.cell? ⟨w.heap.size,1,none⟩=some (.slice none 0 0)∧z.cell? ⟨w.heap.size+1,0,none⟩=some (.bool false)∧z.cell? ⟨w.heap.size+1,1,none⟩=some (.slice none 0 0))∧(z.frozen? ⟨w.heap.size,0,none⟩=false∧z.frozen? ⟨w.heap.size,1,none⟩=false∧z.frozen? ⟨w.heap.size+1,0,none⟩=false∧z.frozen? ⟨w.heap.size+1,1,none⟩=false)
theorem R2.cells {w W z:World} (h:R2 w W) (hb:Below W.heap.size W z):C2 w z:=by
 obtain⟨_,hs,h1,h2⟩:=h;have k1:=h1.below hb (by omega);have k2:=h2.below hb (by omega);exact⟨⟨k1.cell 0,k1.cell 1,k2.cell 0,k2.cell 1⟩,⟨k1.free 0,k1.free 1,k2.free 0,k2.free 1⟩⟩
theorem R2.last {w W z:World} {x y:Int} {b1 b2:Bool} {A1 A2:Option Addr} {m1 m2 c1 c2:Nat} (h:R2 w W) (hb:Below W.heap.size W z) (r1:Ri z (.agg #[.bool b1,.slice A1 m1 c1]) x) (r2:Ri z (.agg #[.bool b2,.slice A2 m2 c2]) y):
  ∃z9,z9=(((z.setCell ⟨w.heap.size,0,none⟩ (.bool b1)).setCell ⟨w.heap.size,1,none⟩ (.slice A1 m1 c1)).setCell ⟨w.heap.size+1,0,none⟩ (.bool b2)).setCell ⟨w.heap.size+1,1,none⟩ (.slice A2 m2 c2) ∧
   (z9.cell? ⟨w.heap.size,0,none⟩=some (.bool b1)∧z9.cell? ⟨w.heap.size,1,none⟩=some (.slice A1 m1 c1)∧z9.cell? ⟨w.heap.size+1,0,none⟩=some (.bool b2)∧z9.cell? ⟨w.heap.size+1,1,none⟩=some (.slice A2 m2 c2)) ∧
   ya x y w (.returned (.tuple #[.agg #[.bool b1,.slice A1 m1 c1],.agg #[.bool b2,.slice A2 m2 c2]])) z9:=by
 obtain⟨hB,hs,h1,h2⟩:=h;have k1:=h1.below hb (by omega);have k2:=h2.below hb (by omega);have k3:=k1.set2 (a':= .bool b1) (b':= .slice A1 m1 c1);have k4:=(k2.other (p:=⟨w.heap.size,0,none⟩) (by show w.heap.size+1≠w.heap.size;omega) (.bool b1)).other (p:=⟨w.heap.size,1,none⟩) (by show w.heap.size+1≠w.heap.size;omega) (.slice A1 m1 c1);have k5:=k4.set2 (a':= .bool b2) (b':= .slice A2 m2 c2);have k6:=(k3.other (p:=⟨w.heap.size+1,0,none⟩) (by show w.heap.size≠w.heap.size+1;omega) (.bool b2)).other (p:=⟨w.heap.size+1,1,none⟩) (by show w.heap.size≠w.heap.size+1;omega) (.slice A2 m2 c2);have r5:=(r1.put2 (a':= .bool b1) (b':= .slice A1 m1 c1) k1 (ju _) (jr _ _ _) (ju _)).put2 (a':= .bool b2) (b':= .slice A2 m2 c2) k4 (ju _) (jr _ _ _) (ju _);have r6:=(r2.put2 (a':= .bool b1) (b':= .slice A1 m1 c1) k1 (ju _) (jr _ _ _) (ju _)).put2 (a':= .bool b2) (b':= .slice A2 m2 c2) k4 (ju _) (jr _ _ _) (ju _);refine⟨_,rfl,⟨k6.cell 0,k6.cell 1,k5.cell 0,k5.cell 1⟩,_,_,rfl,r5,r6,?_⟩;exact((((hB.trans (hb.mono hB.size)).setCell (p:=⟨w.heap.size,0,none⟩) (Nat.le_refl _) _).setCell (p:=⟨w.heap.size,1,none⟩) (Nat.le_refl _) _).setCell (p:=⟨w.heap.size+1,0,none⟩) (Nat.le_succ _) _).setCell (p:=⟨w.heap.size+1,1,none⟩) (Nat.le_succ _) _
theorem Fg (s:ByteArray) (k:Nat) (x y:Int) (w:World) (hk:(k:Int)+1≤(s.size:Int)) (hsz:(s.size:Int)≤20000000) (SL:Hid (∀W,Calls Tryz.prog 118 #[.string s] W (xX k W)))
  (PN:Hid (∀W,Calls Tryz.prog 154 #[.string (s.extract 0 k)] W (kZ x W))) (PD:Hid (∀W,Calls Tryz.prog 154 #[.string (s.extract (k+1) s.size)] W (kZ y W))):
  Calls Tryz.prog 120 #[.string s] w (ya x y w):=by
 obtain⟨W0,hW0⟩:∃W0,W0=(w.alloc (.cells #[.bool false,.slice none 0 0] 178)).alloc (.cells #[.bool false,.slice none 0 0] 178):=⟨_,rfl⟩
 have hR:R2 w W0:=by rw[hW0];exact R2.mk w
 have KC:=hid (fun z hb=>hR.cells (z:=z) hb);have KT:=hid (fun (z z':World) (hb:Below z.heap.size z z') (h5:Below W0.heap.size W0 z)=>And.intro (hR.cells (h5.trans (hb.mono h5.size))) (h5.trans (hb.mono h5.size)));have KL:=hid (fun (z:World) (b1 b2:Bool) (A1 A2:Option Addr) (m1 m2 c1 c2:Nat) hb r1 r2=>hR.last (z:=z) (x:=x) (y:=y) (b1:=b1) (b2:=b2) (A1:=A1) (A2:=A2) (m1:=m1) (m2:=m2) (c1:=c1) (c2:=c2) hb r1 r2);have hb9:Below W0.heap.size W0 W0.drew:=(Below.refl _ _).drew
 have hbe:((k:Int)==(s.size:Int))=false:=by simpa using (by omega:¬(k:Int)=(s.size:Int))
 have hkI:(k:Int)≤(s.size:Int):=by omega
 clear hR;go_enter Tryz.func120,Tryz.ntmps120
 go_upto_region 1 with fail
 rw[←hW0];clear hW0
 go_wp2_with fail
 refine(SL.out _).mono ?_;rintro e w1 ⟨rfl,rfl⟩
 go_wp2_with fail
 obtain⟨⟨e1,e2,e3,e4⟩,⟨e5,e6,e7,e8⟩⟩:=KC.out _ hb9;have hw1:IntKind.i64.wrap ((k:Int)+1)=(k:Int)+1:=IntWalk.i64_in _ (by omega)
 have hw2:(0:Int)≤(k:Int)+1:=by omega
 have hw3:((k:Int)+1).toNat=k+1:=by omega
 go_region_with (first
  | (go_at_call_of 154 (Value.string (s.extract 0 k));(with_reducible refine(PN.out _).mono ?_);rintro e w1 ⟨v1,rfl,r1,hB1⟩;have hS1:=KT.out _ _ hB1 (by first | exact HBW.out | exact hb9);obtain⟨A1,m1,c1,rfl,_,_⟩:=r1.open_;have HN1:=hid r1;(try replace HD1:=hid (HD1.out.below hB1));clear e1 e2 e3 e4 e5 e6 e7 e8;obtain⟨⟨⟨e1,e2,e3,e4⟩,⟨e5,e6,e7,e8⟩⟩,e9⟩:=hS1;have HBW:=hid e9;clear r1 hB1 e9)
  | (go_at_call 154;(with_reducible refine(PD.out _).mono ?_);rintro e w1 ⟨v2,rfl,r2,hB2⟩;have hS2:=KT.out _ _ hB2 (by first | exact HBW.out | exact hb9);obtain⟨A2,m2,c2,rfl,_,_⟩:=r2.open_;have HD1:=hid r2;(try replace HN1:=hid (HN1.out.below hB2));clear e1 e2 e3 e4 e5 e6 e7 e8;obtain⟨⟨⟨e1,e2,e3,e4⟩,⟨e5,e6,e7,e8⟩⟩,e9⟩:=hS2;have HBW:=hid e9;clear r2 hB2 e9))
 all_goals (
  obtain⟨z9,hz9,⟨z0,z1,z2,z3⟩,hP⟩:=KL.out _ _ _ _ _ _ _ _ _ HBW.out HN1.out HD1.out;have HP:=hid hP;rw[←hz9];clear hz9 hP HN1 HD1 HBW KL KT KC PN PD SL hb9 e1 e2 e3 e4 e5 e6 e7 e8;generalize decide (x<0)=bx at *;generalize decide (y<0)=by_ at *
  go_wp2
  exact bodyPost_ret (v:= .tuple #[.agg #[.bool bx,.slice A1 m1 c1],.agg #[.bool by_,.slice A2 m2 c2]]) (by simp[results,Tryz.results120,go_sem,z0,z1,z2,z3]) rfl HP.out)
theorem Fh (s:ByteArray) (x:Int) (w:World) (SL:Hid (∀W,Calls Tryz.prog 118 #[.string s] W (xX s.size W)))
  (PN:Hid (∀W,Calls Tryz.prog 154 #[.string s] W (kZ x W))):
  Calls Tryz.prog 120 #[.string s] w (ya x 1 w):=by
 obtain⟨W0,hW0⟩:∃W0,W0=(w.alloc (.cells #[.bool false,.slice none 0 0] 178)).alloc (.cells #[.bool false,.slice none 0 0] 178):=⟨_,rfl⟩
 have hR:R2 w W0:=by rw[hW0];exact R2.mk w
 have KC:=hid (fun z hb=>hR.cells (z:=z) hb);have KL:=hid (fun (z:World) (b1 b2:Bool) (A1 A2:Option Addr) (m1 m2 c1 c2:Nat) hb r1 r2=>hR.last (z:=z) (x:=x) (y:=1) (b1:=b1) (b2:=b2) (A1:=A1) (A2:=A2) (m1:=m1) (m2:=m2) (c1:=c1) (c2:=c2) hb r1 r2);clear hR;go_enter Tryz.func120,Tryz.ntmps120
 go_upto_region 1 with fail
 rw[←hW0];clear hW0
 go_wp2_with fail
 refine(SL.out _).mono ?_;rintro e w1 ⟨rfl,rfl⟩
 go_wp2_with fail
 refine(PN.out _).mono ?_;rintro e w1 ⟨v1,rfl,r1,hB1⟩;obtain⟨A1,m1,c1,rfl,_,_⟩:=r1.open_;have HN1:=hid r1;have HB1:=hid hB1;clear r1 hB1
 go_wp2_with fail
 refine(PO 1 _ (by decide)).mono ?_;rintro e w2 ⟨v2,rfl,r2,hB2⟩;obtain⟨A2,m2,c2,rfl,_,_⟩:=r2.open_;have HD1:Hid (Ri w2 (.agg #[.bool false,.slice A2 m2 c2]) 1):=hid r2;replace HN1:=hid (HN1.out.below hB2);have HBW:=hid (HB1.out.trans (hB2.mono HB1.out.size));obtain⟨⟨e1,e2,e3,e4⟩,⟨e5,e6,e7,e8⟩⟩:=KC.out _ HBW.out;clear r2 hB2 HB1
 go_wp2
 obtain⟨z9,hz9,⟨z0,z1,z2,z3⟩,hP⟩:=KL.out _ _ _ _ _ _ _ _ _ HBW.out HN1.out HD1.out;rw[←hz9];exact bodyPost_ret (v:= .tuple #[.agg #[.bool (decide (x<0)),.slice A1 m1 c1],.agg #[.bool false,.slice A2 m2 c2]]) (by simp[results,Tryz.results120,go_sem,z0,z1,z2,z3]) rfl hP
theorem OQ {x r:List UInt8} (h:∀c∈x,c≠47):jo (x++47::r)=x.length:=by
 have h0:jo x=x.length:=by
  unfold jo
  exact List.findIdx_eq_length.2 fun c hc=>by simpa using h c hc
 unfold jo at h0 ⊢;rw[List.findIdx_append,h0,if_neg (by omega),List.findIdx_cons];simp
theorem OT {x:List UInt8} (h:∀c∈x,c≠47):jo x=x.length:=by
 unfold jo
 exact List.findIdx_eq_length.2 fun c hc=>by simpa using h c hc
theorem Ec {neg:Bool} {a:List UInt8} (ha:j7 a):∀c∈((if neg=true then [45] else [])++a:List UInt8),c≠47:=by
 intro c hc;rcases List.mem_append.1 hc with h | h
 ·cases neg with
  | true=>have:c=45:=by simpa using h
          subst this;decide
  | false=>simp at h
 ·have:=ha c h
  rintro rfl;exact absurd this.1 (by decide)
theorem GU (neg:Bool) (a b:List UInt8) (s:ByteArray) (w:World) (hs:s.data.toList=((if neg=true then [45] else [])++a)++47::b) (ha:j7 a) (hb:j7 b) (a0:0<a.length) (b0:0<b.length) (al:a.length≤9000000) (bl:b.length≤9000000):
  Calls Tryz.prog 120 #[.string s] w (ya (sg neg (jf a)) (jf b:Int) w):=by
 have hz:=kG hs;generalize hx:((if neg=true then [45] else [])++a:List UInt8)=x at hs hz
 have hxl:x.length≤9000001:=by rw[←hx,Qaf];cases neg <;> simp <;> omega
 rw[Qaf,QaR] at hz;refine Fg s x.length _ _ w (by omega) (by omega) (hid fun W=> ?_) (hid fun W=> ?_) (hid fun W=> ?_)
 ·have h:=Jh s W (by omega)
  rw[hs,OQ (by rw[←hx];exact Ec ha)] at h;exact h
 ·exact Ud neg _ a W (by rw[xK hs,hx];simp) ha a0 al
 ·have h:=Ud false (s.extract (x.length+1) s.size) b W (by rw[xK hs,hz,Qad (by simp)];simp[List.drop_append]) hb b0 bl
  have e:sg false (jf b)=(jf b:Int):=by unfold sg;rw[if_neg (by decide)]
  rw[e] at h;exact h
theorem Ff (neg:Bool) (a:List UInt8) (s:ByteArray) (w:World) (hs:s.data.toList=(if neg=true then [45] else [])++a) (ha:j7 a) (a0:0<a.length) (al:a.length≤9000000):
  Calls Tryz.prog 120 #[.string s] w (ya (sg neg (jf a)) 1 w):=by
 have hz:=kG hs
 have hxl:((if neg=true then [45] else [])++a:List UInt8).length≤9000001:=by rw[Qaf];cases neg <;> simp <;> omega
 refine Fh s _ w (hid fun W=> ?_) (hid fun W=>Ud neg s a W hs ha a0 al);have h:=Jh s W (by omega);rw[hs,OT (Ec ha),←hz] at h;exact h
def zp (q:Rat):Prop:=(decDigits q.num.natAbs).length≤9000000∧(decDigits q.den).length≤9000000
theorem UA (q:Rat):jh q=((if decide (q.num<0)=true then [45] else [])++decDigits q.num.natAbs)++(if q.den=1 then [] else 47::decDigits q.den):=by
 unfold jh;by_cases h:q.num<0 <;> simp[h]
theorem QL (q:Rat) (w:World) (h:zp q):Calls Tryz.prog 120 #[.string ⟨(jh q).toArray⟩] w (ya q.num (q.den:Int) w):=by
 have e1:sg (decide (q.num<0)) (jf (decDigits q.num.natAbs))=q.num:=by rw[Jy];exact UD q
 by_cases hd:q.den=1
 ·have h2:=Ff (decide (q.num<0)) (decDigits q.num.natAbs) ⟨(jh q).toArray⟩ w (by rw[UA,if_pos hd];simp) (xr _) (z8 _) h.1
  rw[e1] at h2;rw[hd];exact h2
 ·have h2:=GU (decide (q.num<0)) (decDigits q.num.natAbs) (decDigits q.den) ⟨(jh q).toArray⟩ w (by rw[UA,if_neg hd]) (xr _) (xr _) (z8 _) (z8 _) h.1 h.2
  rw[e1,Jy] at h2;exact h2
def Ub (w:World) (g K cap:Nat) (cs:List Value):Prop:=cs.length=K∧K≤cap∧cap≤maxLen ∧ ∃cur:Array Value,w.heap[g]? =some (.cells cur 3 (0,0))∧cur.toList.take K=cs
section
variable {w w':World} {g K cap:Nat} {cs:List Value}
theorem Ub.of_owns {base:Nat} {v:Value} (h:w.ownsRow base 3 1 v K cs) (hK:0<K):∃g cap,v = .slice (some ⟨g,0,none⟩) K cap∧base≤g∧g<w.heap.size∧Ub w g K cap cs:=by
 have hlt:=h.lt;obtain⟨h1,⟨rfl,h2⟩ | ⟨g,cap,cur,rfl,h2,h3,h4,h5,h6,h7⟩⟩:=h
 ·omega
 ·obtain⟨l1,l2⟩:=hlt g rfl
  exact⟨g,cap,rfl,h2,l2,by omega,h4,h5,cur,h3,by rw[Qbr] at h7;exact h7⟩
theorem Ub.lt (h:Ub w g K cap cs):g<w.heap.size:=by
 obtain⟨_,_,_,cur,h1,_⟩:=h;rcases Qae g w.heap.size with hlt | hge
 ·exact hlt
 ·rw[Array.getElem?_eq_none hge] at h1;cases h1
theorem Ub.cell (h:Ub w g K cap cs) {i:Nat} (hi:i<K):w.cell? ⟨g,i,none⟩=cs[i]? :=by
 obtain⟨_,_,_,cur,h1,rfl⟩:=h;rw[cell_of_row w g i cur 3 (0,0) h1,QbQ hi];simp
theorem Ub.free (h:Ub w g K cap cs) (i:Nat):w.frozen? ⟨g,i,none⟩=false:=by
 obtain⟨_,_,_,cur,h1,_⟩:=h;simp[World.frozen?,h1]
theorem Ub.put (h:Ub w g K cap cs) (i:Nat) (u:Value):Ub (w.setCell ⟨g,i,none⟩ u) g K cap (cs.set i u):=by
 obtain⟨h0,h2,h3,cur,h1,rfl⟩:=h;refine⟨by simpa using h0,h2,h3,cur.setIfInBounds i u,?_,?_⟩
 ·simp[World.setCell,Array.getElem?_modify,h1]
 ·simp[List.take_set]
theorem Ub.other (h:Ub w g K cap cs) {p:Addr} (hp:g≠p.block) (u:Value):Ub (w.setCell p u) g K cap cs:=by
 obtain⟨h0,h2,h3,cur,h1,h4⟩:=h;exact⟨h0,h2,h3,cur,(Below.heap_setCell w p u g hp).trans h1,h4⟩
theorem Ub.below {B:Nat} (h:Ub w g K cap cs) (hb:Below B w w') (hg:g<B):Ub w' g K cap cs:=by
 obtain⟨h0,h2,h3,cur,h1,h4⟩:=h;exact⟨h0,h2,h3,cur,(hb.block g hg).trans h1,h4⟩
theorem Ub.drewN (h:Ub w g K cap cs) (n:Nat):Ub (w.drewN n) g K cap cs:=h
theorem Ub.alloc (h:Ub w g K cap cs) (o:Obj):Ub (w.alloc o) g K cap cs:=by
 have hl:=h.lt;obtain⟨h0,h2,h3,cur,h1,h4⟩:=h;exact⟨h0,h2,h3,cur,(Below.heap_alloc w o g hl).trans h1,h4⟩
theorem Ub.slW (h:Ub w g K cap cs) (hK:K≤140737488355328):jD w (.slice (some ⟨g,0,none⟩) K cap) cs:=by
 have hl:=h.lt;have h0:=h.1;refine⟨some ⟨g,0,none⟩,cap,by rw[h0],by have:=h.2.1;omega,by omega,fun hn=>⟨g,0,rfl,hl,fun j hj=> ?_⟩⟩;rw[Qbi];exact h.cell (by omega)
end
theorem EE {ws:List Nat} (hn:kp ws) (hok:jI ws) {m:Nat} (hl:ws.length=m+1):0<ws[m]?.getD 0:=by
 have h:=VY hn hok (k:=m) (by omega);rw[yG ws m (by omega),Qbx (by omega)] at h;simpa [jb] using h
theorem Cw {bs vs:List Nat} {f m:Nat} (ob:jI bs) (nb:kp bs) (hl:bs.length=m+1) (hf:f=B9/(bs[m]?.getD 0+1)) (ov:jI vs) (nv:kp vs) (hv:jb vs=jb bs*f):
  vs.length=m+1∧B9≤2*vs[m]?.getD 0:=by
 have hp:=EE nb ob hl;have hlt:=kR ob m;have hs:=ym bs m (by omega);rw[yG bs m (by omega),Qbx (by omega)] at hs;have hlo:=qN (Jv ob m);rw[Qak,QaJ (by omega)] at hlo;generalize bs[m]?.getD 0=v at *;obtain⟨f1,f2,f3,f4⟩:=Gz hp hlt hf;simp only[jb,QbF,Qbf] at hs;generalize jb (bs.take m)=R at *
 have hup:jb vs<B9^(m+1):=by
  have h1:jb bs<B9^m*(v+1):=by rw[hs,Qau];omega
  have h2:jb bs*f<B9^m*(v+1)*f:=Qba h1 f1
  have h3:B9^m*(v+1)*f≤B9^m*B9:=by rw[Qal,Qam (v+1)];exact Qan _ f3
  rw[hv,QaD];omega
 have hdn:B9^m*(v*f)≤jb vs:=by
  rw[hv,hs,Qaz,Qal];omega
 have h1:=Qj nv hup
 have h2:m<vs.length:=by
  rcases Qae m vs.length with h | h
  ·exact h
  ·have h3:=qN ov
   have h4:B9^vs.length≤B9^m:=Qai (by decide) h;have h5:B9^m*1≤B9^m*(v*f):=Qan _ (by omega);omega
 refine⟨by omega,?_⟩;have hs2:=ym vs m (by omega);rw[yG vs m h2,Qbx (by omega)] at hs2;simp only[jb,QbF,Qbf] at hs2;have hlo2:=qN (Jv ov m);rw[Qak,QaJ (by omega)] at hlo2;generalize vs[m]?.getD 0=z at *
 have h6:v*f≤z:=by
  rcases Qae z (v*f) with h | h
  ·have h3:B9^m*(z+1)≤B9^m*(v*f):=Qan _ h
   rw[Qau] at h3;omega
  ·exact h
 omega
theorem NV {xs ws:List Nat} {f:Nat} (oa:jI xs) (na:kp xs) (hne:xs≠[]) (f1:0<f) (f2:f<B9) (ow:jI ws) (nw:kp ws) (hw:jb ws=jb xs*f):ws≠[]∧ws.length≤xs.length+1∧xs.length≤ws.length:=by
 have h1:=Ky na hne;have h2:=qN oa;have h3:jb xs*1≤jb xs*f:=Qan _ f1;have h4:0<B9^(xs.length-1):=Nat.pow_pos (by decide)
 have hlen:ws.length≤xs.length+1:=by
  refine Qj nw ?_;rw[hw,QaD];exact Qcc h2 f2
 refine⟨?_,hlen,?_⟩
 ·rintro rfl
  simp[jb] at hw;omega
 ·rcases Qae ws.length xs.length with h | h
  ·have h5:=qN ow
   have h6:B9^ws.length≤B9^(xs.length-1):=Qai (by decide) (by omega);omega
  ·exact h
theorem DP {us vs:List Nat} {x y f n M K:Nat} (hu:jb us=x*f) (hv:jb vs=y*f) (hul:us.length=K+1) (hM:M+(n+1)=K+1) (hx:x<B9^K) (hy:B9^n≤y) (f1:0<f):jb (us.drop M)<jb vs:=by
 have h1:=ym us M (by omega);have h2:B9^M*B9^n≤B9^M*y:=Qan _ hy;rw[←Qbj,show M+n=K from by omega] at h2;have h3:x*f<B9^M*y*f:=Qba (by omega) f1;rw[Qal,←hv,←hu] at h3
 have h4:B9^M*jb (us.drop M)<B9^M*jb vs:=by omega
 exact Nat.lt_of_mul_lt_mul_left h4
theorem Tx (ws:List Nat) (z:Nat):jb (ws++List.replicate z 0)=jb ws:=by rw[KB,Tv];simp
theorem Tr {ws:List Nat} (h:jI ws) (z:Nat):jI (ws++List.replicate z 0):=Kz.2 ⟨h,Xo z⟩
theorem Pm {L:List Nat} {n V:Nat} (h:jb L<V) (hV:V<B9^n) (hn:n≤L.length):jb (L.take n)=jb L:=by
 have h1:=ym L n hn;rcases QaA (jb (L.drop n)) with h0 | h0
 ·rw[h0] at h1;omega
 ·have:B9^n*1≤B9^n*jb (L.drop n):=Qan _ h0
  omega
theorem NR {x y f:Nat} (hf:0<f):x*f/(y*f)=x/y∧x*f%(y*f)/f=x%y:=by
 refine⟨Nat.mul_div_mul_right x y hf,?_⟩;rw[Qci,Nat.mul_div_cancel _ hf]
theorem PW {f:Nat} (h:0<f):kp [f]:=by
 have:=Jm [] f (by omega);simpa [kp] using this
theorem Dg.new (w:World) (f:Nat) (h:0<f) (hf:f<B9):Dg (w.alloc (.cells #[.int .i64 (f:Int)] 3)) (.slice (some ⟨w.heap.size,0,none⟩) 1 1) f:=
 ⟨[f],by simp[jb],JX.2 hf,PW h,((ja.make w 3 [.int .i64 (f:Int)]).sl 1 rfl (by decide)).wide⟩
theorem Co (ws:List Nat):∀u∈jm ws,u.oneCell'=true:=by
 intro u hu;obtain⟨x,_,rfl⟩:=List.mem_map.1 hu;rfl
theorem Cn {w:World} {b off:Nat} {ws:List Nat} (h:∀j,j<(jm ws).length→w.cell? ⟨b,off+j,none⟩=(jm ws)[j]?):∀(j:Nat) (u:Value),(jm ws)[j]? =some u→w.cell? ((⟨b,off,none⟩:Addr).add j)=some u:=by
 intro j u hu;rw[Lib.add_plain,h j (List.getElem?_eq_some_iff.1 hu).1,hu]
theorem Pw {w:World} {g K cap n:Nat} {L:List Nat} (hU:Ub w g K cap (jm L)) (hok:jI L) (hn:n≤K) (hs:K≤140737488355328):
  Calls Tryz.prog 187 #[.slice (some ⟨g,0,none⟩) n cap] w fun e w'=>∃v,e = .returned v∧Dg w v (jb (L.take n))∧w=w':=by
 have hl:=hU.1;rw[kh] at hl;have h:=(hU.slW hs).take (k:=n) (by rw[kh];omega);rw[ZS] at h
 have e:(L.take n).length=n:=by rw[Qak];omega
 have h2:=Yz (some ⟨g,0,none⟩) cap (L.take n) w (by rw[e];exact h);rw[e] at h2
 exact h2.mono fun e w' ⟨h3,h4,h5⟩=>⟨_,h3,Dg.of_trim (Jv hok n) h4,h5⟩
def EF (z:Nat) (W:World) (e:Ending) (w':World):Prop:=∃v,e = .returned v∧Dg W v z∧W=w'
def Um (w:World) (e:Ending) (w':World):Prop:=e = .returned (.tuple #[.int .i64 0,.int .i64 0,.bool false])∧w=w'
theorem FH (s:ByteArray) (w:World) (h:(20:Int)<(s.size:Int)):Calls Tryz.prog 136 #[.string s] w (Um w):=by
 go_enter Tryz.func136,Tryz.ntmps136
 go_wp2
 go_ret3;exact⟨rfl,rfl⟩
theorem H8 (neg:Bool) (s t:ByteArray) (k:Nat) (w:World) (h0:0<s.size) (hc:(((s[0]'h0).toNat:Int)==45)=neg) (ht:(if neg=true then s.extract 1 s.size else s)=t) (hsz:(s.size:Int)≤20) (SL:Hid (∀W,Calls Tryz.prog 118 #[.string t] W (xX k W)))
  (hk:(9:Int)<k∨((k:Int)≤9∧(10:Int)<(t.size:Int)-k)) (hkt:(t.size:Int)≤20) (hk2:(k:Int)≤(t.size:Int)):Calls Tryz.prog 136 #[.string s] w (Um w):=by
 have HTE:=hid ht;clear ht
 have h0I:(0:Int)<(s.size:Int):=by omega
 have h1I:(1:Int)≤(s.size:Int):=by omega
 cases neg
 case' true=>rw[if_pos rfl] at HTE
 case' false=>rw[if_neg (by decide)] at HTE;have HTE2:=HTE.out;clear HTE;subst HTE2
 all_goals (
  rcases hk with hk | ⟨hk,hk1⟩
  ·go_enter Tryz.func136,Tryz.ntmps136
   go_wp2_with fail
   try rw[HTE.out]
   refine(SL.out _).mono ?_;rintro e w1 ⟨rfl,rfl⟩
   go_wp2
   go_ret3;exact⟨rfl,rfl⟩
  ·have hk':¬(9:Int)<k:=by omega
   go_enter Tryz.func136,Tryz.ntmps136
   go_wp2_with fail
   try rw[HTE.out]
   refine(SL.out _).mono ?_;rintro e w1 ⟨rfl,rfl⟩
   go_wp2
   go_ret3
   exact⟨rfl,rfl⟩)
theorem VN {n:Nat} (h:1000000000≤n):10≤(decDigits n).length:=by
 rcases Qae (decDigits n).length 10 with hl | hl
 ·have h1:=xf (xr n)
  rw[Jy] at h1;have h2:10^(decDigits n).length≤10^9:=Qai (by decide) (by omega);omega
 ·exact hl
theorem Op (q:Rat):∃t:List UInt8,jh q=(if decide (q.num<0)=true then [45] else [])++t∧t=decDigits q.num.natAbs++(if q.den=1 then [] else 47::decDigits q.den)∧jo t=(decDigits q.num.natAbs).length:=by
 refine⟨_,by rw[UA,QaV],rfl,?_⟩;by_cases hd:q.den=1
 ·rw[if_pos hd,Qbg];exact QV (xr _)
 ·rw[if_neg hd];exact Yq (xr _)
theorem FG (q:Rat) (w:World) (h:¬qC q):Calls Tryz.prog 136 #[.string ⟨(jh q).toArray⟩] w (Um w):=by
 obtain⟨tl,ht,htt,hsl⟩:=Op q;generalize hss:(⟨(jh q).toArray⟩:ByteArray)=s
 have hs:s.data.toList=jh q:=by rw[←hss]
 have hz:=kG hs;by_cases h20:20<s.size
 ·exact FH s w (by omega)
 ·have hn0:=z8 q.num.natAbs
  have hwide:9<(decDigits q.num.natAbs).length∨((decDigits q.num.natAbs).length≤9∧10<tl.length-(decDigits q.num.natAbs).length):=by
   rcases Qae 9 (decDigits q.num.natAbs).length with h9 | h9
   ·exact .inl h9
   ·refine .inr ⟨h9,?_⟩
    have h1:q.num.natAbs<1000000000:=by
     rcases Qae q.num.natAbs 1000000000 with h2 | h2
     ·exact h2
     ·have:=VN h2;omega
    have h2:1000000000≤q.den:=by
     rcases Qae q.den 1000000000 with h2 | h2
     ·exact absurd ⟨h1,h2⟩ h
     ·exact h2
    have h3:=VN h2
    have hd:q.den≠1:=by omega
    rw[htt,if_neg hd,Qaf,QaR];omega
  have htl:(decDigits q.num.natAbs).length≤tl.length:=by rw[htt,Qaf];omega
  have h0:0<s.size:=by rw[hz,ht,Qaf];omega
  by_cases hneg:q.num<0
  ·have hd:decide (q.num<0)=true:=QaK hneg
   rw[hd,if_pos rfl] at ht
   have hs':s.data.toList=45::tl:=by rw[hs,ht];rfl
   have e:(s.extract 1 s.size).data.toList=tl:=by rw[xK hs',kG hs',Qad (Nat.le_refl _)];rfl
   have ez:=kG e;have ez2:=kG hs';rw[QaR] at ez2;refine H8 true s (s.extract 1 s.size) (decDigits q.num.natAbs).length w h0 (by rw[Qt hs' h0];rfl) (if_pos rfl) (by omega) (hid fun W=> ?_) (by omega) (by omega) (by omega);have h:=Jh (s.extract 1 s.size) W (by omega);rw[e,hsl] at h;exact h
  ·have hd:decide (q.num<0)=false:=Qat hneg
   rw[hd,if_neg (by decide),Qbe] at ht
   have hs':s.data.toList=tl:=by rw[hs,ht]
   have ez:=kG hs';have hge:=xI s 0 h0
   refine H8 false s s (decDigits q.num.natAbs).length w h0 ?_ (if_neg (by decide)) (by omega) (hid fun W=> ?_) (by omega) (by omega) (by omega)
   ·refine ZZ (xr q.num.natAbs _ ?_)
    rw[hs',htt,QaB hn0] at hge;exact Qab hge
   ·have h:=Jh s W (by omega)
    rw[hs',hsl] at h;exact h
instance (q:Rat):Decidable (qC q):=by unfold qC;infer_instance
def QN (b:Bool) (w:World) (e:Ending) (w':World):Prop:=(∃n d:Int,e = .returned (.tuple #[.int .i64 n,.int .i64 d,.bool b]))∧w=w'
theorem Yi (q:Rat) (w:World):Calls Tryz.prog 136 #[.string ⟨(jh q).toArray⟩] w (QN (decide (qC q)) w):=by
 by_cases h:qC q
 ·rw[QaK h]
  exact(QO q w h).mono fun e w' k=>⟨⟨_,_,k.1⟩,k.2⟩
 ·rw[Qat h]
  exact(FG q w h).mono fun e w' k=>⟨⟨_,_,k.1⟩,k.2⟩
theorem Jk {w:World} {x y:Int} {b1 b2:Bool} {A1 A2:Option Addr} {m1 m2 c1 c2:Nat} (r1:Ri w (.agg #[.bool b1,.slice A1 m1 c1]) x) (r2:Ri w (.agg #[.bool b2,.slice A2 m2 c2]) y):
  ∃W,W=(w.alloc (.cells #[.bool b1,.slice A1 m1 c1] 178)).alloc (.cells #[.bool b2,.slice A2 m2 c2] 178)∧Below w.heap.size w W∧W.heap.size=w.heap.size+2 ∧
   ja W w.heap.size 178 [.bool b1,.slice A1 m1 c1]∧ja W (w.heap.size+1) 178 [.bool b2,.slice A2 m2 c2]∧Ri W (.agg #[.bool b1,.slice A1 m1 c1]) x∧Ri W (.agg #[.bool b2,.slice A2 m2 c2]) y:=by
 have hB:Below w.heap.size w ((w.alloc (.cells #[.bool b1,.slice A1 m1 c1] 178)).alloc (.cells #[.bool b2,.slice A2 m2 c2] 178)):=((Below.refl _ _).alloc (Nat.le_refl _) _).alloc (by simp) _;exact⟨_,rfl,hB,by simp,(ja.make w _ [.bool b1,.slice A1 m1 c1]).alloc _,QJ,r1.below hB,r2.below hB⟩
theorem Rp (s t:ByteArray) (l:List UInt8) (b1 b2:Bool) (hbb:(b1&&b2)=false) (X1 X2 X3 X4:Int) (x1 x2 y1 y2:Int) (w:World) (HQ1:Hid (∀W,Calls Tryz.prog 136 #[.string s] W (QN b1 W))) (HQ2:Hid (∀W,Calls Tryz.prog 136 #[.string t] W (QN b2 W)))
  (PA:Hid (∀W,Calls Tryz.prog 120 #[.string s] W (ya x1 y1 W))) (PB:Hid (∀W,Calls Tryz.prog 120 #[.string t] W (ya x2 y2 W)))
  (T1:Hid (∀W a b,Ri W a x1→Ri W b y2→Calls Tryz.prog 138 #[a,b] W (kZ X1 W)))
  (T2:Hid (∀W a b,Ri W a x2→Ri W b y1→Calls Tryz.prog 138 #[a,b] W (kZ X2 W)))
  (T3:Hid (∀W a b,Ri W a X1→Ri W b X2→Calls Tryz.prog 174 #[a,b] W (kZ X3 W)))
  (T4:Hid (∀W a b,Ri W a y1→Ri W b y2→Calls Tryz.prog 138 #[a,b] W (kZ X4 W)))
  (FR:Hid (∀W a b,Ri W a X3→Ri W b X4→Calls Tryz.prog 135 #[a,b] W (qh l W))):
  Calls Tryz.prog 139 #[.string s,.string t] w (qh l w):=by
 have key:b1=false∨(b1=true∧b2=false):=by cases b1 <;> cases b2 <;> simp_all
 clear hbb
 rcases key with hb | ⟨hb,hb'⟩
 all_goals (
  subst hb
  try subst hb'
  go_enter Tryz.func139,Tryz.ntmps139
  go_wp2_with fail
  refine(HQ1.out _).mono ?_;rintro e w0 ⟨⟨n1,d1,rfl⟩,rfl⟩
  go_wp2_with fail
  refine(HQ2.out _).mono ?_;rintro e w0 ⟨⟨n2,d2,rfl⟩,rfl⟩
  go_wp2_with fail
  refine(PA.out _).mono ?_;rintro e w1 ⟨vp,vq,rfl,rp,rq,hB1⟩;obtain⟨Ap,np,cp,rfl,_,_⟩:=rp.open_;obtain⟨Aq,nq_,cq,rfl,_,_⟩:=rq.open_;generalize decide (x1<0)=bp at *;generalize decide (y1<0)=bq at *;obtain⟨W1,hW1,hBW1,hz1,o1,o2,rp1,rq1⟩:=Jk rp rq
  go_upto_region 6 with fail
  rw[←hW1];have HB1:=hid (hB1.trans (hBW1.mono hB1.size));have HO1:=hid o1;have HO2:=hid o2;have HRP:=hid rp1;have HRQ:=hid rq1;have HZ1:=hid hz1;clear hW1 hBW1 hz1 o1 o2 rp1 rq1 rp rq hB1
  go_wp2_with fail
  refine(PB.out _).mono ?_;rintro e w2 ⟨vr,vs,rfl,rr,rs,hB2⟩;obtain⟨Ar,nr,cr,rfl,_,_⟩:=rr.open_;obtain⟨As,ns,cs,rfl,_,_⟩:=rs.open_;generalize decide (x2<0)=br at *;generalize decide (y2<0)=bs at *;obtain⟨W2,hW2,hBW2,hz2,o3,o4,rr1,rs1⟩:=Jk rr rs
  go_upto_region 7 with fail
  rw[←hW2];have hBB:=hB2.trans (hBW2.mono hB2.size);have HP:=hid (HRP.out.below hBB);have HQ:=hid (HRQ.out.below hBB);have HR:=hid rr1;have HS:=hid rs1
  have KC:Hid (∀z,Below W2.heap.size W2 z→(fun z=>z.cell? ⟨w1.heap.size,0,none⟩=some (.bool bp)∧z.cell? ⟨w1.heap.size,1,none⟩=some (.slice Ap np cp)∧z.cell? ⟨w1.heap.size+1,0,none⟩=some (.bool bq)∧z.cell? ⟨w1.heap.size+1,1,none⟩=some (.slice Aq nq_ cq)∧z.cell? ⟨w2.heap.size,0,none⟩=some (.bool br)∧z.cell? ⟨w2.heap.size,1,none⟩=some (.slice Ar nr cr)∧z.cell? ⟨w2.heap.size+1,0,none⟩=some (.bool bs)∧z.cell? ⟨w2.heap.size+1,1,none⟩=some (.slice As ns cs)∧Below W2.heap.size W2 z) z):=hid (fun z hb=>by
   have h1:=(HO1.out.below hBB HO1.out.lt).below hb (Qac HO1.out.lt hBB.size);have h2:=(HO2.out.below hBB HO2.out.lt).below hb (Qac HO2.out.lt hBB.size);have h3:=o3.below hb o3.lt;have h4:=o4.below hb o4.lt
   exact⟨h1.cell 0,h1.cell 1,h2.cell 0,h2.cell 1,h3.cell 0,h3.cell 1,h4.cell 0,h4.cell 1,hb⟩)
  have KT:=hid (fun (z z':World) (hb:Below z.heap.size z z') (h5:Below W2.heap.size W2 z)=>KC.out z' (h5.trans (hb.mono h5.size)));have HBF:=hid (HB1.out.trans (hBB.mono HB1.out.size));clear hW2 hBW2 hz2 o3 o4 rr1 rs1 rr rs hB2 hBB HO1 HO2 HRP HRQ HZ1 HB1
  go_region_held3 (fun z=>z.cell? ⟨w1.heap.size,0,none⟩=some (.bool bp)∧z.cell? ⟨w1.heap.size,1,none⟩=some (.slice Ap np cp)∧z.cell? ⟨w1.heap.size+1,0,none⟩=some (.bool bq)∧z.cell? ⟨w1.heap.size+1,1,none⟩=some (.slice Aq nq_ cq)∧z.cell? ⟨w2.heap.size,0,none⟩=some (.bool br)∧z.cell? ⟨w2.heap.size,1,none⟩=some (.slice Ar nr cr)∧z.cell? ⟨w2.heap.size+1,0,none⟩=some (.bool bs)∧z.cell? ⟨w2.heap.size+1,1,none⟩=some (.slice As ns cs)∧Below W2.heap.size W2 z)
   (first | exact KC.out _ (Below.refl _ _).drew | exact KT.out _ _ (by assumption) (by assumption))
   (first
    | (go_at_call_of 138 (Value.agg #[.bool bp,.slice Ap np cp]);go_split_ands;refine(T1.out _ _ _ (HP.out.below (by assumption)) (HS.out.below (by assumption))).mono ?_;rintro e3 w3 ⟨a1,rfl,ha1,hB3⟩)
    | (go_at_call_of 138 (Value.agg #[.bool br,.slice Ar nr cr]);go_split_ands;refine(T2.out _ _ _ (HR.out.below (by assumption)) (HQ.out.below (by assumption))).mono ?_;rintro e4 w4 ⟨a2,rfl,ha2,hB4⟩)
    | (go_at_call 174;go_split_ands;refine(T3.out _ _ _ (ha1.below hB4) ha2).mono ?_;rintro e5 w5 ⟨a3,rfl,ha3,hB5⟩)
    | (go_at_call_of 138 (Value.agg #[.bool bq,.slice Aq nq_ cq]);go_split_ands;refine(T4.out _ _ _ (HQ.out.below (by assumption)) (HS.out.below (by assumption))).mono ?_;rintro e6 w6 ⟨a4,rfl,ha4,hB6⟩)
    | (go_at_call 135;go_split_ands;refine(FR.out _ _ _ (ha3.below hB6) ha4).mono ?_;rintro e7 wz ⟨rfl,hB7⟩))
  have HAN:Hid (Below W2.heap.size W2 wz):=hid (by go_split_ands;assumption);have HF:=hid (HBF.out.trans (HAN.out.mono HBF.out.size))
  go_wp2
  go_ret
  exact⟨rfl,HF.out⟩)
theorem RT (s t:ByteArray) (l:List UInt8) (b1 b2:Bool) (hbb:(b1&&b2)=false) (X1 X4:Int) (x1 x2 y1 y2:Int) (w:World) (HQ1:Hid (∀W,Calls Tryz.prog 136 #[.string s] W (QN b1 W))) (HQ2:Hid (∀W,Calls Tryz.prog 136 #[.string t] W (QN b2 W)))
  (PA:Hid (∀W,Calls Tryz.prog 120 #[.string s] W (ya x1 y1 W))) (PB:Hid (∀W,Calls Tryz.prog 120 #[.string t] W (ya x2 y2 W)))
  (T1:Hid (∀W a b,Ri W a x1→Ri W b x2→Calls Tryz.prog 138 #[a,b] W (kZ X1 W)))
  (T4:Hid (∀W a b,Ri W a y1→Ri W b y2→Calls Tryz.prog 138 #[a,b] W (kZ X4 W)))
  (FR:Hid (∀W a b,Ri W a X1→Ri W b X4→Calls Tryz.prog 135 #[a,b] W (qh l W))):
  Calls Tryz.prog 93 #[.string s,.string t] w (qh l w):=by
 have key:b1=false∨(b1=true∧b2=false):=by cases b1 <;> cases b2 <;> simp_all
 clear hbb
 rcases key with hb | ⟨hb,hb'⟩
 all_goals (
  subst hb
  try subst hb'
  go_enter Tryz.func93,Tryz.ntmps93
  go_wp2_with fail
  refine(HQ1.out _).mono ?_;rintro e w0 ⟨⟨n1,d1,rfl⟩,rfl⟩
  go_wp2_with fail
  refine(HQ2.out _).mono ?_;rintro e w0 ⟨⟨n2,d2,rfl⟩,rfl⟩
  go_wp2_with fail
  refine(PA.out _).mono ?_;rintro e w1 ⟨vp,vq,rfl,rp,rq,hB1⟩;obtain⟨Ap,np,cp,rfl,_,_⟩:=rp.open_;obtain⟨Aq,nq_,cq,rfl,_,_⟩:=rq.open_;generalize decide (x1<0)=bp at *;generalize decide (y1<0)=bq at *;obtain⟨W1,hW1,hBW1,hz1,o1,o2,rp1,rq1⟩:=Jk rp rq
  go_upto_region 6 with fail
  rw[←hW1];have HB1:=hid (hB1.trans (hBW1.mono hB1.size));have HO1:=hid o1;have HO2:=hid o2;have HRP:=hid rp1;have HRQ:=hid rq1;have HZ1:=hid hz1;clear hW1 hBW1 hz1 o1 o2 rp1 rq1 rp rq hB1
  go_wp2_with fail
  refine(PB.out _).mono ?_;rintro e w2 ⟨vr,vs,rfl,rr,rs,hB2⟩;obtain⟨Ar,nr,cr,rfl,_,_⟩:=rr.open_;obtain⟨As,ns,cs,rfl,_,_⟩:=rs.open_;generalize decide (x2<0)=br at *;generalize decide (y2<0)=bs at *;obtain⟨W2,hW2,hBW2,hz2,o3,o4,rr1,rs1⟩:=Jk rr rs
  go_upto_region 7 with fail
  rw[←hW2];have hBB:=hB2.trans (hBW2.mono hB2.size);have HP:=hid (HRP.out.below hBB);have HQ:=hid (HRQ.out.below hBB);have HR:=hid rr1;have HS:=hid rs1
  have KC:Hid (∀z,Below W2.heap.size W2 z→(fun z=>z.cell? ⟨w1.heap.size,0,none⟩=some (.bool bp)∧z.cell? ⟨w1.heap.size,1,none⟩=some (.slice Ap np cp)∧z.cell? ⟨w1.heap.size+1,0,none⟩=some (.bool bq)∧z.cell? ⟨w1.heap.size+1,1,none⟩=some (.slice Aq nq_ cq)∧z.cell? ⟨w2.heap.size,0,none⟩=some (.bool br)∧z.cell? ⟨w2.heap.size,1,none⟩=some (.slice Ar nr cr)∧z.cell? ⟨w2.heap.size+1,0,none⟩=some (.bool bs)∧z.cell? ⟨w2.heap.size+1,1,none⟩=some (.slice As ns cs)∧Below W2.heap.size W2 z) z):=hid (fun z hb=>by
   have h1:=(HO1.out.below hBB HO1.out.lt).below hb (Qac HO1.out.lt hBB.size);have h2:=(HO2.out.below hBB HO2.out.lt).below hb (Qac HO2.out.lt hBB.size);have h3:=o3.below hb o3.lt;have h4:=o4.below hb o4.lt
   exact⟨h1.cell 0,h1.cell 1,h2.cell 0,h2.cell 1,h3.cell 0,h3.cell 1,h4.cell 0,h4.cell 1,hb⟩)
  have KT:=hid (fun (z z':World) (hb:Below z.heap.size z z') (h5:Below W2.heap.size W2 z)=>KC.out z' (h5.trans (hb.mono h5.size)));have HBF:=hid (HB1.out.trans (hBB.mono HB1.out.size));clear hW2 hBW2 hz2 o3 o4 rr1 rs1 rr rs hB2 hBB HO1 HO2 HRP HRQ HZ1 HB1
  go_region_held3 (fun z=>z.cell? ⟨w1.heap.size,0,none⟩=some (.bool bp)∧z.cell? ⟨w1.heap.size,1,none⟩=some (.slice Ap np cp)∧z.cell? ⟨w1.heap.size+1,0,none⟩=some (.bool bq)∧z.cell? ⟨w1.heap.size+1,1,none⟩=some (.slice Aq nq_ cq)∧z.cell? ⟨w2.heap.size,0,none⟩=some (.bool br)∧z.cell? ⟨w2.heap.size,1,none⟩=some (.slice Ar nr cr)∧z.cell? ⟨w2.heap.size+1,0,none⟩=some (.bool bs)∧z.cell? ⟨w2.heap.size+1,1,none⟩=some (.slice As ns cs)∧Below W2.heap.size W2 z)
   (first | exact KC.out _ (Below.refl _ _).drew | exact KT.out _ _ (by assumption) (by assumption))
   (first
    | (go_at_call_of 138 (Value.agg #[.bool bp,.slice Ap np cp]);go_split_ands;refine(T1.out _ _ _ (HP.out.below (by assumption)) (HR.out.below (by assumption))).mono ?_;rintro e3 w3 ⟨a1,rfl,ha1,hB3⟩)
    | (go_at_call_of 138 (Value.agg #[.bool bq,.slice Aq nq_ cq]);go_split_ands;refine(T4.out _ _ _ (HQ.out.below (by assumption)) (HS.out.below (by assumption))).mono ?_;rintro e6 w6 ⟨a4,rfl,ha4,hB6⟩)
    | (go_at_call 135;go_split_ands;refine(FR.out _ _ _ (ha1.below hB6) ha4).mono ?_;rintro e7 wz ⟨rfl,hB7⟩))
  have HAN:Hid (Below W2.heap.size W2 wz):=hid (by go_split_ands;assumption);have HF:=hid (HBF.out.trans (HAN.out.mono HBF.out.size))
  go_wp2
  go_ret
  exact⟨rfl,HF.out⟩)
