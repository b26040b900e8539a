/- Contract: divide over the rational numbers. -/
import Derived.Test.YtneafcdfnhnpnaaGreatDoorZK11
set_option maxRecDepth 100000
set_option maxHeartbeats 4000000
namespace Go.Proofs.YtneafcdfnhnpnaaGreatDoor
open Go.RowKit Go.Lib
def xg {T:Type} (f:T→T) (o k:Nat) (L:List T):List T:=L.mapIdx fun j x=>if o≤j∧j<o+k then f x else x
section
variable {T:Type} (f:T→T) (o k:Nat) (L:List T)
theorem Y3:(xg f o k L).length=L.length:=by simp[xg]
theorem NH:xg f o 0 L=L:=by
 apply List.ext_getElem?;intro j;simp only[xg,List.getElem?_mapIdx,Nat.add_zero]
 cases L[j]? with
 | none=>rfl
 | some x=>simp only[Option.map_some];rw[if_neg (by omega)]
theorem VP:(xg f o k L)[o+k]? =L[o+k]? :=by
 simp only[xg,List.getElem?_mapIdx,Nat.lt_irrefl,and_false,if_false];cases L[o+k]? <;> simp
theorem VQ (x:T) (hx:L[o+k]? =some x):(xg f o k L).set (o+k) (f x)=xg f o (k+1) L:=by
 have h:=(List.getElem?_eq_some_iff.1 hx).1;apply List.ext_getElem?;intro j;rw[List.getElem?_set];simp only[xg,List.getElem?_mapIdx,List.length_mapIdx];by_cases hj:o+k=j
 ·subst hj;rw[if_pos rfl,if_pos h,hx];simp
 ·rw[if_neg hj]
  rcases Nat.lt_or_ge j L.length with hl | hl
  ·rw[List.getElem?_eq_getElem hl]
   simp only[Option.map_some,Option.some.injEq];by_cases h2:o≤j∧j<o+k
   ·rw[if_pos h2,if_pos (by omega)]
   ·rw[if_neg h2,if_neg (by omega)]
  ·rw[List.getElem?_eq_none hl];rfl
theorem NF (x:T) (hx:L[o+k]? =some x) (hf:f x=x):xg f o (k+1) L=xg f o k L:=by
 rw[←VQ f o k L x hx,hf];apply List.ext_getElem?;intro j;rw[List.getElem?_set,Y3];by_cases hj:o+k=j
 ·subst hj;rw[VP,hx];simp[(List.getElem?_eq_some_iff.1 hx).1]
 ·rw[if_neg hj]
end
def jm:Fd Rat:=⟨0,fun q=>decide (q=0),fun a b=>a-b,fun a b=>a*b,fun a b=>a/b⟩
def y6 (d x:Rat):Rat:=if x=0 then x else x/d
theorem Sz (d:Rat) (o n:Nat) (L:List Rat) (h:o+n=L.length):xg (y6 d) o n L=kR jm d o L:=by
 unfold xg kR;apply List.ext_getElem?;intro j;simp only[List.getElem?_mapIdx];rcases Nat.lt_or_ge j L.length with hl | hl
 ·rw[List.getElem?_eq_getElem hl]
  simp only[Option.map_some,Option.some.injEq];by_cases h2:o≤j
  ·rw[if_pos ⟨h2,by omega⟩,if_pos h2];simp[y6,jm]
  ·rw[if_neg (by omega),if_neg h2]
 ·rw[List.getElem?_eq_none hl];rfl
theorem Bc (q:Rat):(j5 q==0)=decide (q=0):=by
 unfold j5;by_cases h:q=0
 ·subst h;decide
 ·have:q.num≠0:=fun e=>h (Rat.num_eq_zero.1 e)
  rw[if_neg this,decide_eq_false h]
  split <;> decide
theorem KX (v:Value) (q:Rat) (w:World) (h:Rt w v q):Calls Tryz.prog 314 #[.agg #[],v] w fun e w'=>e = .returned (.bool (decide (q=0)))∧Below w.heap.size w w':=
 (Cg v q w h).mono fun e w' h=>⟨by rw[h.1,Bc],h.2⟩
theorem Zq (w:World):(method 444 172 (.agg #[]) "talisman/algebra.isZero").run Tryz.prog w = .ok (314,.agg #[]) w:=by kernel_rfl
theorem Au (w:World):(method 444 172 (.agg #[]) "talisman/algebra.over").run Tryz.prog w = .ok (317,.agg #[]) w:=by kernel_rfl
theorem WI (w:World):(method 444 172 (.agg #[]) "talisman/algebra.times").run Tryz.prog w = .ok (318,.agg #[]) w:=by kernel_rfl
theorem WF (w:World):(method 444 172 (.agg #[]) "talisman/algebra.minus").run Tryz.prog w = .ok (315,.agg #[]) w:=by kernel_rfl
theorem Zp (w:World):(method 444 172 (.agg #[]) "talisman/algebra.of").run Tryz.prog w = .ok (316,.agg #[]) w:=by kernel_rfl
theorem SJ (dv:Value) (d:Rat) (w:World) (b o n c:Nat) (es:List El) (L:List Rat) (hO:jo w b es L) (hn:o+n=L.length) (hc1:n≤c) (hc2:c≤9223372036854775807)
  (hd:Rt w dv d) (hd0:d≠0) (hdf:kA d) (hL:∀x∈L,kA x):
  Calls Tryz.prog 202 #[.iface 172 (.agg #[]),.slice (some ⟨b,o*3,none⟩) n c,dv] w fun e w'=>
   e = .returned (.tuple #[])∧(∃es',jo w' b es' (xg (y6 d) o n L))∧jh b w w':=by
 have hZ:=Zq;have hV:=Au;have HO:=hid hO;have HN:=hid hn;have HL:=hid hL;have HDF:=hid hdf;have HD0:=hid hd0;obtain⟨s,A1,n1,c1,A2,n2,c2,hdv⟩:=hd.shape;have HD:=hid hd;clear hO hn hL hd hdf hd0;subst hdv;go_enter Tryz.func202,Tryz.ntmps202
 go_wp2_with fail
 go_loopg [10] n (fun gh i wr=>∃k:Nat,i = .int .i64 k∧k+gh=n∧Hid (∃es',jo wr b es' (xg (y6 d) o k L))∧Hid (jh b w wr)∧Hid (ja wr w.heap.size 122 [.bool s,.slice A1 n1 c1,.slice A2 n2 c2])∧Hid (Rt wr (.agg #[.bool s,.slice A1 n1 c1,.slice A2 n2 c2]) d))
 case atStart=>
  have hal:Below w.heap.size w (w.alloc (.cells #[.bool s,.slice A1 n1 c1,.slice A2 n2 c2] 122)):=(Below.refl _ _).alloc (Nat.le_refl _) _;exact⟨0,rfl,by omega,hid ⟨es,by rw[NH];exact HO.out.below hal⟩,hid (jh.of_below hal),hid (ja.make w _ [.bool s,.slice A1 n1 c1,.slice A2 n2 c2]),hid (HD.out.below hal)⟩
 case round=>
  obtain⟨k,rfl,hk,hR,hB,hX,hDv⟩:=hrel
  cases gk with
  | zero=>
   have hin:¬((k:Int)<(n:Int)):=by omega
   have hkn:k=n:=by omega
   rw[hkn] at hR;clear hkn hk
   go_wp2
   go_end0
   exact⟨rfl,hR.out,hB.out⟩
  | succ gh=>
   have hlt:k<n:=by omega
   have hlt':(k:Int)<(n:Int):=by omega
   obtain⟨es1,hR1⟩:=hR.out;obtain⟨e,B1,m1,k1,B2,m2,k2,he,hee,hrt,y0,y1,y2,z0,z1,z2⟩:=hR1.at_ (j:=o+k) (by rw[Y3];have:=HN.out;omega);rw[VP] at hrt;rw[Nat.add_mul] at y0 y1 y2 z0 z1 z2;obtain⟨e0,ea,eb⟩:=e
   have hea:ea = .slice B1 m1 k1∧eb = .slice B2 m2 k2:=by simpa using hee
   obtain⟨rfl,rfl⟩:=hea;clear hee;unfold kX at hrt;dsimp only at hrt y0
   have hol:o+k<L.length:=by have:=HN.out;omega
   have hx:L[o+k]? =some (L[o+k]?.getD 0):=by rw[List.getElem?_eq_getElem hol];rfl
   have hfx:=HL.out (L[o+k]?.getD 0) (List.mem_of_getElem? hx);have Hsame:=hid (NF (y6 d) o k L _ hx);have Hsucc:=hid (VQ (y6 d) o k L _ hx);have Hfx:=hid hfx;have Hk:=hid hk;have HR1:=hid hR1;have hbl:=hR1.own.lt;clear hx hol hfx hk hR1 hR;generalize L[o+k]?.getD 0=x at *;have hal:Below wr.heap.size wr (wr.alloc (.cells #[.bool e0,.slice B1 m1 k1,.slice B2 m2 k2] 122)):=(Below.refl _ _).alloc (Nat.le_refl _) _;have hXX:=ja.make wr 122 [.bool e0,.slice B1 m1 k1,.slice B2 m2 k2];have hXl:=hX.out.lt
   go_wp2_with fail
   refine(KX _ x _ (hrt.below hal)).mono ?_;rintro ee w2 ⟨rfl,hB2⟩;have hB12:Below wr.heap.size wr w2:=hal.trans (hB2.mono hal.size);by_cases h0:x=0
   ·have HR2:Hid (∃es',jo w2 b es' (xg (y6 d) o (k+1) L)):=hid ⟨es1,by rw[Hsame.out (by unfold y6;rw[if_pos h0])];exact HR1.out.below hB12⟩
    have HB2:=hid (hB.out.below hB12);have HX2:=hid (hX.out.below hB12 hXl);have HD2:=hid (hDv.out.below hB12);rw[decide_eq_true h0];clear h0 hB12 hB2 hal hXX y0 y1 y2 z0 z1 z2 HR1 hB hX hDv hrt hXl
    go_wp2
    go_roundg gh
    case rel=>exact⟨k+1,by go_num,by have:=Hk.out;omega,HR2,HB2,HX2,HD2⟩
    case measure=>omega
   ·have Hv:Hid (y6 d x=x/d):=hid (by unfold y6;rw[if_neg h0])
    rw[decide_eq_false h0];have hX2:=hX.out.below hB12 hXl;have hXX2:=hXX.below hB2 (by simp);obtain⟨a0,a1,a2,_,_,_⟩:=hX2.three;obtain⟨b0,b1,b2,_,_,_⟩:=hXX2.three;have OV:=hid (Ch (.agg #[.bool e0,.slice B1 m1 k1,.slice B2 m2 k2]) (.agg #[.bool s,.slice A1 n1 c1,.slice A2 n2 c2]) x d w2 (hrt.below hB12) (hDv.out.below hB12) HD0.out Hfx.out.1 Hfx.out.2 HDF.out.1 HDF.out.2);have HB12:=hid hB12;clear h0 hB12 hB2 hal hXX
    go_wp2_with fail
    refine OV.out.mono ?_;clear OV;rintro ee w3 ⟨rv,rfl,hrv,hB3⟩;have HB13:=hid (HB12.out.trans (hB3.mono HB12.out.size));obtain⟨s5,A5,n5,c5,A6,n6,c6,rfl⟩:=hrv.shape;have y0':=(HB13.out.cell (p:=⟨b,o*3+k*3,none⟩) hbl).trans y0;have y1':=(HB13.out.cell (p:=⟨b,o*3+k*3+1,none⟩) hbl).trans y1;have y2':=(HB13.out.cell (p:=⟨b,o*3+k*3+2,none⟩) hbl).trans y2;have z0':=(HB13.out.frozen (p:=⟨b,o*3+k*3,none⟩) hbl).trans z0;have z1':=(HB13.out.frozen (p:=⟨b,o*3+k*3+1,none⟩) hbl).trans z1;have z2':=(HB13.out.frozen (p:=⟨b,o*3+k*3+2,none⟩) hbl).trans z2;have hbl3:b<w3.heap.size:=Nat.lt_of_lt_of_le hbl HB13.out.size;have HP:=hid ((HR1.out.below HB13.out).put (j:=o+k) (e:=(s5,.slice A5 n5 c5,.slice A6 n6 c6)) (q:=x/d) (by rw[Y3];have:=HN.out;omega) hrv);rw[Nat.add_mul,←Hv.out,Hsucc.out] at HP;dsimp only at HP;have HBt:=hid ((hB.out.below HB13.out).trans (jh.set3 w3 b (o*3+k*3) (.bool s5) (.slice A5 n5 c5) (.slice A6 n6 c6)))
    have hne:w.heap.size≠b:=fun e=>by have:=HO.out.own.lt;omega
    have HXt:=hid ((hX.out.below HB13.out hXl).but (jh.set3 w3 b (o*3+k*3) (.bool s5) (.slice A5 n5 c5) (.slice A6 n6 c6)) hne);have HDt:=hid ((hDv.out.below HB13.out).stay (HR1.out.below HB13.out).own (HR1.out.below HB13.out).noInt (jh.set3 w3 b (o*3+k*3) (.bool s5) (.slice A5 n5 c5) (.slice A6 n6 c6)));clear hrv hB3 a0 a1 a2 b0 b1 b2 y0 y1 y2 z0 z1 z2 hX2 hXX2 hrt hX hDv hB HR1 HB12 HB13 hXl hne
    go_wp2
    go_roundg gh
    case rel=>exact⟨k+1,by go_num,by have:=Hk.out;omega,hid ⟨_,HP.out⟩,HBt,HXt,HDt⟩
    case measure=>omega
theorem WJ (w:World):(nilAhead 444 172 (.agg #[]) "talisman/algebra.isZero").run Tryz.prog w = .ok (some false) w:=by kernel_rfl
abbrev jI:=jZ Rat
def kK (n:Nat) (r:jI):Value:= .slice (some ⟨r.1,0,none⟩) n r.2.1
structure j6 (w:World) (g:Nat) (R:List jI) (n:Nat):Prop where
 own:ja w g 167 (R.map (kK n))
 row:∀r∈R,(∃es,jo w r.1 es r.2.2)∧r.2.2.length=n∧n≤r.2.1∧r.2.1≤9223372036854775807
 apart:(R.map (·.1)).Nodup
theorem j6.below {w w':World} {g:Nat} {R:List jI} {n:Nat} (h:j6 w g R n) (hb:Below w.heap.size w w'):j6 w' g R n:=
 ⟨h.own.below hb h.own.lt,fun r hr=>⟨by obtain⟨es,he⟩:=(h.row r hr).1;exact⟨es,he.below hb⟩,(h.row r hr).2⟩,h.apart⟩
theorem j6.cellRow {w:World} {g:Nat} {R:List jI} {n:Nat} (h:j6 w g R n) {i:Nat} {r:jI} (hr:R[i]? =some r):w.cell? ⟨g,i,none⟩=some (kK n r):=by
 rw[h.own.cell i,List.getElem?_map,hr];rfl
theorem Qr (g c n:Nat) (R:List jI) (w:World) (hM:j6 w g R n):
  Calls Tryz.prog 159 #[.slice (some ⟨g,0,none⟩) R.length c] w fun e w'=>e = .returned (.int .i64 ((if R=[] then 0 else n:Nat):Int))∧w=w':=by
 rcases R with _ | ⟨r,R⟩
 ·go_enter Tryz.func159,Tryz.ntmps159
  go_wp2
  go_ret;exact⟨rfl,rfl⟩
 ·have hck:=hM.cellRow (i:=0) (r:=r) rfl
  have hl:((((r::R).length:Nat):Int)==0)=false:=by simp;omega
  unfold kK at hck
  have hpos:0<(r::R).length:=by simp
  clear hM;generalize (r::R).length=m at *;go_enter Tryz.func159,Tryz.ntmps159
  go_wp2
  go_ret;exact⟨rfl,rfl⟩
def zG (R:List jI) (i j:Nat):Rat:=((R[i]?.map (·.2.2)).getD [])[j]?.getD 0
theorem Wf {R:List jI} {i j:Nat} {r:jI} (hr:R[i]? =some r):zG R i j=r.2.2[j]?.getD 0:=by unfold zG;rw[hr];rfl
def Qx (R:List jI) (t a c:Nat):Prop:=∀j,a≤j→j<c → ∀i,t≤i→i<R.length→zG R i j=0
def Wt (R:List jI) (n top from_:Nat) (w:World) (e:Ending) (w':World):Prop:=
 Below w.heap.size w w'∧((∃i j:Nat,e = .returned (.tuple #[.int .i64 i,.int .i64 j,.bool true])∧top≤i∧i<R.length∧from_≤j∧j<n∧zG R i j≠0∧(∀k,top≤k→k<i→zG R k j=0)∧Qx R top from_ j)
  ∨ (∃i j:Int,e = .returned (.tuple #[.int .i64 i,.int .i64 j,.bool false])∧Qx R top from_ n))
theorem De (g c n:Nat) (R:List jI) (w:World) (top from_:Nat) (hM:j6 w g R n) (hR:R≠[]) (hc:R.length≤c) (hc2:c≤1000000) (ht:top≤R.length) (hf:from_≤n) (hn:n≤1000000):
  Calls Tryz.prog 201 #[.iface 172 (.agg #[]),.slice (some ⟨g,0,none⟩) R.length c,.int .i64 top,.int .i64 from_] w (Wt R n top from_ w):=by
 have hZ:=Zq;have hZn:=WJ
 have hmf:∀(fn:Fn) (first cap:Array Value) (w:World),(Instr.makeFunc fn first cap).run Tryz.prog w = .ok (.func fn first cap) w:=fun _ _ _ _=>rfl
 have HW:=hid (fun W (h:j6 W g R n)=>by have:=Qr g c n R W h;rw[if_neg hR] at this;exact this);have HR:=hid hR;have HM:=hid hM;clear hR hM;go_enter Tryz.func201,Tryz.ntmps201
 go_wp2_with fail
 go_step3
 go_wp2_with fail
 try go_step3
 try go_wp2_with fail
 go_loopg [8,9,10] (n-from_) (fun gh r j f wr=>∃(rr:Int) (k:Nat),r = .int .i64 rr∧j = .int .i64 k∧f = .bool false∧from_≤k∧k+gh=n∧Hid (Qx R top from_ k)∧Hid (j6 wr g R n)∧Below w.heap.size w wr)
 case atStart=>exact⟨0,from_,rfl,rfl,rfl,by omega,by omega,hid (fun j h1 h2=>by omega),HM,Below.refl _ _⟩
 case round=>
  clear HM;obtain⟨rr,k,rfl,rfl,rfl,hk1,hk2,hC,hMr,hB⟩:=hrel
  cases gk with
  | zero=>
   have hkn:k=n:=by omega
   subst hkn
   go_wp2_with (go_at_call 159;refine(HW.out _ hMr.out).mono ?_;rintro e w2 ⟨rfl,rfl⟩)
   rw[Exit.noGoto_ret];go_ret3;exact⟨hB,Or.inr ⟨_,_,rfl,hC.out⟩⟩
  | succ gh=>
   have hlt:k<n:=by omega
   go_wp2_with (go_at_call 159;refine(HW.out _ hMr.out).mono ?_;rintro e w2 ⟨rfl,rfl⟩)
   go_loopg [8,10] (R.length-top) (fun h r f wx=>∃i:Nat,r = .int .i64 i∧f = .bool false∧top≤i∧i+h=R.length∧Hid (∀t,top≤t→t<i→zG R t k=0)∧Hid (j6 wx g R n)∧Hid (Below w.heap.size w wx))
   case atStart=>exact⟨top,rfl,rfl,by omega,by omega,hid (fun t h1 h2=>by omega),hMr,hid hB⟩
   case round=>
    clear hMr hB;obtain⟨i,rfl,rfl,hi1,hi2,hT,hMx,hBx⟩:=hrel
    cases gk with
    | zero=>
     have hin:¬((i:Int)<(R.length:Int)):=by omega
     have hie:i=R.length:=by omega
     have HT:=hid hT.out;rw[hie] at HT
     have Hcl:Hid (Qx R top from_ (k+1)):=hid (by
      intro j h1 h2 t h3 h4;rcases Nat.lt_or_ge j k with h5 | h5
      ·exact hC.out j h1 h5 t h3 h4
      ·have:j=k:=by omega
       subst this;exact HT.out t h3 h4)
     clear hie
     go_wp2
     go_roundg gh
     case rel=>exact⟨i,k+1,rfl,by go_num,rfl,by omega,by omega,Hcl,hMx,hBx.out⟩
     case measure=>omega
    | succ h=>
     have hin:(i:Int)<(R.length:Int):=by omega
     have hil:i<R.length:=by omega
     obtain⟨r,hr⟩:∃r,R[i]? =some r:=⟨R[i],List.getElem?_eq_getElem hil⟩
     have hc1:=hMx.out.cellRow hr;obtain⟨⟨es,hes⟩,hrl,hcap1,hcap2⟩:=hMx.out.row r (List.mem_of_getElem? hr);obtain⟨e,B1,m1,k1,B2,m2,k2,_,hee,hrt,y0,y1,y2,_,_,_⟩:=hes.at_ (j:=k) (by omega);have hblk:=hes.own.lt;have hgl:=hMx.out.own.lt;have Hnum:=hid (Wf (j:=k) hr);unfold kK at hc1;obtain⟨rb,rc,rl⟩:=r;obtain⟨e0,ea,eb⟩:=e
     have hea:ea = .slice B1 m1 k1∧eb = .slice B2 m2 k2:=by simpa using hee
     obtain⟨rfl,rfl⟩:=hea;unfold kX at hrt;dsimp only at hc1 hrl hcap1 hcap2 hblk Hnum hrt y0 y1 y2;have Hrt:=hid hrt;clear hr hee hrt hes;generalize rl[k]?.getD 0=x at *
     have hkn':(k:Int)<(n:Int):=by omega
     have KS:Hid (∀z,Below wr.heap.size wr z→z.cell? ⟨g,i,none⟩=some (.slice (some ⟨rb,0,none⟩) n rc)∧z.cell? ⟨rb,k*3,none⟩=some (.bool e0)∧z.cell? ⟨rb,k*3+1,none⟩=some (.slice B1 m1 k1)∧z.cell? ⟨rb,k*3+2,none⟩=some (.slice B2 m2 k2)∧Below wr.heap.size wr z):=hid (fun z hb=>
      ⟨(hb.cell (p:=⟨g,i,none⟩) hgl).trans hc1,(hb.cell (p:=⟨rb,k*3,none⟩) hblk).trans y0,(hb.cell (p:=⟨rb,k*3+1,none⟩) hblk).trans y1,(hb.cell (p:=⟨rb,k*3+2,none⟩) hblk).trans y2,hb⟩)
     have HMr:=hid (fun (w4:World) (hb:Below wr.drew.heap.size wr.drew w4)=>(hMx.out.below (xn hb)));have HBr:=hid (fun (w4:World) (hb:Below wr.drew.heap.size wr.drew w4)=>(hBx.out.trans ((xn hb).mono hBx.out.size)))
     go_wp2
     by_cases h0:x=0
     ·have Hnext:Hid (∀t,top≤t→t<i+1→zG R t k=0):=hid (by
       intro t h1 h2;rcases Nat.lt_or_ge t i with h3 | h3
       ·exact hT.out t h1 h3
       ·have:t=i:=by omega
        subst this;rw[Hnum.out];exact h0)
      have Hde:=hid (decide_eq_true h0);clear h0
      go_region_held3 (fun z=>z.cell? ⟨g,i,none⟩=some (.slice (some ⟨rb,0,none⟩) n rc)∧z.cell? ⟨rb,k*3,none⟩=some (.bool e0)∧z.cell? ⟨rb,k*3+1,none⟩=some (.slice B1 m1 k1)∧z.cell? ⟨rb,k*3+2,none⟩=some (.slice B2 m2 k2)∧Below wr.heap.size wr z)
       (first | exact KS.out _ (Below.refl _ _).drew | exact KS.out _ (xn HB4.out))
       (first | (go_at_call 314;refine(KX _ x _ (Hrt.out.below (Below.refl _ _).drew)).mono ?_;rintro e w4 ⟨rfl,hB4⟩;rw[Hde.out];have HB4:=hid hB4;clear hB4))
      all_goals (
       have HM4:=hid (HMr.out _ HB4.out);have HB5:=hid (HBr.out _ HB4.out);clear HB4 KS HMr HBr hMx hBx
       go_wp2
       go_roundg h
       case rel=>exact⟨i+1,by go_num,rfl,by omega,by omega,Hnext,HM4,HB5⟩
       case measure=>omega)
     ·have Hx:Hid (zG R i k≠0):=hid (by rw[Hnum.out];exact h0)
      have Hde:=hid (decide_eq_false h0);clear h0
      go_region_held3 (fun z=>z.cell? ⟨g,i,none⟩=some (.slice (some ⟨rb,0,none⟩) n rc)∧z.cell? ⟨rb,k*3,none⟩=some (.bool e0)∧z.cell? ⟨rb,k*3+1,none⟩=some (.slice B1 m1 k1)∧z.cell? ⟨rb,k*3+2,none⟩=some (.slice B2 m2 k2)∧Below wr.heap.size wr z)
       (first | exact KS.out _ (Below.refl _ _).drew | exact KS.out _ (xn HB4.out))
       (first | (go_at_call 314;refine(KX _ x _ (Hrt.out.below (Below.refl _ _).drew)).mono ?_;rintro e w4 ⟨rfl,hB4⟩;rw[Hde.out];have HB4:=hid hB4;clear hB4))
      all_goals (
       have HB5:=hid (HBr.out _ HB4.out);clear HB4 KS HMr HBr hMx hBx
       go_wp2
       rw[Exit.noGoto_ret];go_ret3
       exact⟨HB5.out,Or.inl ⟨i,k,rfl,hi1,hil,hk1,hlt,Hx.out,fun t h1 h2=>hT.out t h1 h2,hC.out⟩⟩)
end Go.Proofs.YtneafcdfnhnpnaaGreatDoor
namespace Go.Proofs.YtneafcdfnhnpnaaGreatDoor
open Go.RowKit
def kq (w:World) (Pc:Value→Prop) (v:Value):Prop:=∀g cur e,v.ownBlock=some g→w.heap[g]? =some (.cells cur e (0,0)) → ∀c∈cur.toList,Pc c
theorem kq.nil (w:World) (Pc:Value→Prop):kq w Pc (.slice none 0 0):=by intro g cur e h;simp[Value.ownBlock] at h
theorem kq.same {w w':World} {Pc:Value→Prop} {v:Value} (h:kq w Pc v) (hk:∀g,v.ownBlock=some g→w'.heap[g]? =w.heap[g]?):kq w' Pc v:=
 fun g cur e hg hc=>h g cur e hg ((hk g hg).symm.trans hc)
theorem Uq {P:Program} (w:World) (base:Nat) (t ty e:TypeId) (i:TypeInfo) (z:Value) (size bytes:Nat) (ht:P.underlying t=some (.slice e)) (hi:P.info? e=some i) (hz:i.zero=some z)
  (hsize:i.size=size) (hby:i.bytes=bytes) (hzs:z.cells.size=size) (hsz:0<size)
  (v:Value) (n:Nat) (xs:List Value) (hown:w.ownsRow base e size v n xs)
  (a:Addr) (m c:Nat) (news:List Value) (hl:news.length=m*size) (hnews:∀j u,news[j]? =some u→w.cell? (a.add j)=some u) (h1:∀u∈news,u.oneCell'=true)
  (h63:n+m≤maxLen) (hbytes:(n+m)*bytes≤140737488355328) (hm:0<m)
  (Pc:Value→Prop) (hall:kq w Pc v) (hnw:∀u∈news,Pc u) (hzc:∀u∈z.cells.toList,Pc u) {v':Value} {w':World} (hr:(Builtin.append_ #[t,t] ty #[v,.slice (some a) m c]).run P w = .ok v' w'):kq w' Pc v':=by
 subst hsize;subst hby
 have hsmall:n+m≤9223372036854775807:=by simp only[maxLen] at h63;omega
 have hzz:∀k,∀u∈(Builtin.zeroCells z.cells k).toList,Pc u:=by
  intro k u hu;unfold Builtin.zeroCells at hu;have hmem:u∈(Array.range (k*z.cells.size)).map (fun j=>z.cells[j%z.cells.size]!):=Array.mem_toList_iff.1 hu;obtain⟨j,_,rfl⟩:=Array.mem_map.1 hmem;have hj:j%z.cells.size<z.cells.size:=Nat.mod_lt _ (by omega);rw[getElem!_pos z.cells _ hj];exact hzc _ (Array.mem_toList_iff.2 (Array.getElem_mem hj))
 rcases hown.2 with ⟨rfl,rfl⟩ | ⟨g,cap,cur,rfl,hbg,hg,hnc,hcm,hcs,htake⟩
 ·have hr2:=run_append_nil (P:=P) w t ty e i z ht hi hz a m c news hl hnews (by omega) (by omega) (by have hb:=hbytes;simp only[Nat.zero_add] at hb;omega)
  rw[hr2] at hr
  injection hr with hv hw
  subst hv hw;intro g cur e' hgb hc u hu;simp[Value.ownBlock] at hgb;subst hgb;have:=heap_alloc_new w.drew (.cells (news.toArray++Builtin.zeroCells z.cells (grownCap w m 0 e-m)) e);rw[show w.drew.heap.size=w.heap.size from rfl] at this;rw[this] at hc
  injection hc with hc
  injection hc with hc _ _
  subst hc;rw[Array.toList_append,List.mem_append] at hu;rcases hu with hu | hu
  ·exact hnw u hu
  ·exact hzz _ u hu
 ·by_cases hroom:n+m≤cap
  ·have hfit:n*i.size+news.length≤cur.size:=by rw[hl,hcs,←Nat.add_mul];exact Nat.mul_le_mul_right _ hroom
   have hr2:=run_append_room (P:=P) w t ty e i ht hi g n cap cur hg a m c news hl hnews h1 hroom hfit;rw[hr2] at hr
   injection hr with hv hw
   subst hv hw;intro g' cur' e' hgb hc u hu;simp[Value.ownBlock] at hgb;subst hgb;have:=setRow_heap w g cur (cur.toList.take (n*i.size)++news++cur.toList.drop (n*i.size+news.length)).toArray e (0,0) hg;rw[this] at hc
   injection hc with hc
   injection hc with hc _ _
   subst hc;simp only[List.mem_append] at hu;rcases hu with (hu | hu) | hu
   ·exact hall g cur e rfl hg u (List.mem_of_mem_take hu)
   ·exact hnw u hu
   ·exact hall g cur e rfl hg u (List.mem_of_mem_drop hu)
  ·have holds:∀j u,xs[j]? =some u→w.cell? ((⟨g,0,none⟩:Addr).add j)=some u:=hown.cells (g:=g) rfl
   have hr2:=run_append_grow (P:=P) w t ty e i z ht hi hz ⟨g,0,none⟩ n cap xs hown.1 holds a m c news hl hnews (by omega) (by omega) (growslice_fits (by omega) hbytes);rw[hr2] at hr
   injection hr with hv hw
   subst hv hw;intro g' cur' e' hgb hc u hu;simp[Value.ownBlock] at hgb;subst hgb;have:=heap_alloc_new w.drew (.cells (xs.toArray++news.toArray++Builtin.zeroCells z.cells (grownCap w (n+m) cap e-(n+m))) e);rw[show w.drew.heap.size=w.heap.size from rfl] at this;rw[this] at hc
   injection hc with hc
   injection hc with hc _ _
   subst hc;rw[Array.toList_append,Array.toList_append,List.mem_append,List.mem_append] at hu;rcases hu with (hu | hu) | hu
   ·rw[←htake] at hu
    exact hall g cur e rfl hg u (List.mem_of_mem_take hu)
   ·exact hnw u hu
   ·exact hzz _ u hu
theorem Kv {P:Program} (w:World) {ops:Array Oper} {rest:List Oper} {o:Oper} {a:Act} {Q:Exit→Act→World→Prop} (hgd:o.guard=none) (s x:Operand) (t:TypeId)
  (ho:o.op = .call { callee:= .builtin .append,args:= #[s,x],argTypes:= #[t,t] })
  (base:Nat) (e:TypeId) (i:TypeInfo) (z:Value) (size bytes:Nat) (ht:P.underlying t=some (.slice e)) (hi:P.info? e=some i) (hz:i.zero=some z)
  (hsize:i.size=size) (hby:i.bytes=bytes) (hzs:z.cells.size=size) (hsz:0<size)
  (v:Value) (n:Nat) (xs:List Value) (hs:a.eval s=v) (hown:w.ownsRow base e size v n xs)
  (ad:Addr) (m c:Nat) (news:List Value) (hx:a.eval x = .slice (some ad) m c) (hl:news.length=m*size) (hnews:∀j u,news[j]? =some u→w.cell? (ad.add j)=some u) (h1:∀u∈news,u.oneCell'=true)
  (h63:n+m≤maxLen) (hbytes:(n+m)*bytes≤140737488355328) (hbase:base≤w.heap.size) (hm:0<m)
  (Pc:Value→Prop) (hall:kq w Pc v) (hnw:∀u∈news,Pc u) (hzc:∀u∈z.cells.toList,Pc u)
  (h:∀v' w',w'.ownsRow base e size v' (n+m) (xs++news)→w.grownBy w' v.ownBlock→kq w' Pc v'→wpList P ops Q rest (a.put o.dst v') w'):wpList P ops Q (o::rest) a w:=
 wpList_plain hgd fun K hK=>by
  obtain⟨v',w',hr,h2,h3,_⟩:=run_append_own (P:=P) w base t o.type e i z size bytes ht hi hz hsize hby hzs hsz v n xs hown ad m c news hl hnews h1 h63 hbytes hbase;have h4:=Uq w base t o.type e i z size bytes ht hi hz hsize hby hzs hsz v n xs hown ad m c news hl hnews h1 h63 hbytes hm Pc hall hnw hzc hr;unfold Oper.wp execOp;simp only[ho,resolve,invoke,builtin,Sem.run_bind,Sem.run_pure,Result.andThen_ok,List.map_toArray,List.map_cons,List.map_nil,hs,hx,hr];exact hK _ _ (h v' w' h2 h3 h4)
end Go.Proofs.YtneafcdfnhnpnaaGreatDoor
namespace Go.Proofs.YtneafcdfnhnpnaaGreatDoor
open Go.RowKit Go.Lib
def kr (c:Value):Prop:=∀n,c ≠ .int .u64 n
theorem kf.noU {c:Value} (h:kf c):kr c:=fun n=>h _ n
def kp (w w':World):Prop:=w.heap.size≤w'.heap.size ∧ ∀b,b<w.heap.size→w'.heap[b]? =w.heap[b]? ∨ ∀cur e fr,w.heap[b]? =some (.cells cur e fr) → ∀c∈cur.toList,kr c
theorem Rj {w:World} {b o:Nat} {u:Value} (hu:w.cell? ⟨b,o,none⟩=some u):∃cur e fr,w.heap[b]? =some (.cells cur e fr)∧u∈cur.toList:=by
 unfold World.cell? at hu;dsimp only at hu;split at hu
 ·rename_i c e fr hc
  simp at hu;exact⟨c,e,fr,hc,Array.mem_toList_iff.2 (Array.mem_of_getElem? hu)⟩
 ·cases hu
theorem Nt.keeps {w w':World} {v:Value} {x:Nat} (h:Nt w v x) (hk:kp w w'):Nt w' v x:=by
 obtain⟨ws,h1,h2,h3,A,n,c,hv,h4,h5,h6,h7⟩:=h;refine⟨ws,h1,h2,h3,A,n,c,hv,h4,h5,h6,fun hn=> ?_⟩;obtain⟨b,off,hA,hlt,hcell⟩:=h7 hn;refine⟨b,off,hA,Nat.lt_of_lt_of_le hlt hk.1,fun j u hu=> ?_⟩;have hj:=hcell j u hu;rcases hk.2 b hlt with hs | hs
 ·exact(World.cell?_of_block (a:=⟨b,off+j,none⟩) hs).trans hj
 ·obtain⟨y,_,hy⟩:=List.mem_map.1 (List.mem_of_getElem? hu)
  obtain⟨cur,e,fr,h8,h9⟩:=Rj hj;exact absurd hy.symm (hs cur e fr h8 u h9 _)
theorem Rt.keeps {w w':World} {v:Value} {q:Rat} (h:Rt w v q) (hk:kp w w'):Rt w' v q:=by
 obtain⟨nv,dv,hv,h1,h2⟩:=h;exact⟨nv,dv,hv,h1.keeps hk,h2.keeps hk⟩
section
variable {w w':World}
theorem kp.below (h:Below w.heap.size w w'):kp w w':=⟨h.size,fun b hb=> .inl (h.block b hb)⟩
theorem kp.but {g:Nat} {t:TypeId} {cs:List Value} (h:jh g w w') (hO:ja w g t cs) (hc:∀c∈cs,kf c):kp w w':=by
 refine⟨h.size,fun b hb=> ?_⟩;by_cases hg:b=g
 ·subst hg
  refine .inr fun cur e fr hh c hm=> ?_
  unfold ja at hO;rw[hO] at hh
  injection hh with hh
  injection hh with hh _ _
  subst hh;exact(hc c (by simpa using hm)).noU
 ·exact .inl (h.block b hb hg)
theorem kp.grown {base:Nat} {e:TypeId} {size n:Nat} {v:Value} {xs:List Value} (h:w.grownBy w' v.ownBlock) (ho:w.ownsRow base e size v n xs) (ha:kq w kr v):kp w w':=by
 refine⟨h.size,fun b hb=> ?_⟩;by_cases hg:some b=v.ownBlock
 ·refine .inr fun cur e' fr hh c hm=> ?_
  rcases ho.2 with ⟨rfl,_⟩ | ⟨g,cap,cur2,rfl,_,hg2,_⟩
  ·simp[Value.ownBlock] at hg
  ·simp[Value.ownBlock] at hg
   subst hg;rw[hg2] at hh
   injection hh with hh
   injection hh with h1 h2 h3
   subst h1 h2 h3;exact ha _ _ _ rfl hg2 c hm
 ·exact .inl (h.block b hb hg)
end
theorem Zy (n:Nat) (R:List jI):∀c∈R.map (kK n),kf c:=by
 intro c hc;obtain⟨r,_,rfl⟩:=List.mem_map.1 hc;exact jq _ _ _
section
variable {w w':World} {g n:Nat} {R:List jI}
theorem Wa {R:List jI} (h:(R.map (·.1)).Nodup) {i j:Nat} {a b:jI} (hi:R[i]? =some a) (hj:R[j]? =some b) (hij:i≠j):a.1≠b.1:=by
 intro e
 have h1:(R.map (·.1))[i]? =some a.1:=by rw[List.getElem?_map,hi];rfl
 have h2:(R.map (·.1))[j]? =some a.1:=by rw[List.getElem?_map,hj,e];rfl
 exact hij ((List.getElem?_inj (List.getElem?_eq_some_iff.1 h1).1 h).1 (h1.trans h2.symm))
theorem j6.gne (h:j6 w g R n) {r:jI} (hr:r∈R):g≠r.1:=by
 obtain⟨es,he⟩:=(h.row r hr).1;exact h.own.apart he.own (by decide)
theorem jo.keeps {b:Nat} {es:List El} {qs:List Rat} (h:jo w b es qs) (hk:kp w w') (hb:w'.heap[b]? =w.heap[b]?):jo w' b es qs:=
 ⟨hb.trans h.own,h.len,h.noi,fun i e q he hq=>(h.num i e q he hq).keeps hk⟩
theorem j6.keep (h:j6 w g R n) (hK:kp w w') (hk:∀k,k=g∨k∈R.map (·.1)→w'.heap[k]? =w.heap[k]?):j6 w' g R n:=
 ⟨(hk g (.inl rfl)).trans h.own,fun r hr=>⟨by obtain⟨es,he⟩:=(h.row r hr).1;exact⟨es,he.keeps hK (hk r.1 (.inr (List.mem_map_of_mem hr)))⟩,(h.row r hr).2⟩,h.apart⟩
theorem j6.setRow (h:j6 w g R n) {i:Nat} {r:jI} (hr:R[i]? =some r) {L:List Rat} (hO:∃es,jo w' r.1 es L) (hl:L.length=n) (hb:jh r.1 w w'):j6 w' g (setRow R i L) n:=by
 obtain⟨es0,he0⟩:=(h.row r (List.mem_of_getElem? hr)).1;have hK:=kp.but hb he0.own he0.noInt;refine⟨?_,?_,?_⟩
 ·have e:(Go.Proofs.YtneafcdfnhnpnaaGreatDoor.setRow R i L).map (kK n)=R.map (kK n):=Gs i L (fun b c=>Value.slice (some ⟨b,0,none⟩) n c)
  rw[e];exact h.own.but hb (h.gne (List.mem_of_getElem? hr))
 ·intro x hx
  obtain⟨k,hk⟩:=List.mem_iff_getElem?.1 hx;by_cases hik:i=k
  ·subst hik
   rw[xt hr] at hk;obtain rfl:=Option.some.inj hk;have:=h.row r (List.mem_of_getElem? hr);exact⟨hO,hl,this.2.2.1,this.2.2.2⟩
  ·rw[zH hik] at hk
   have:=h.row x (List.mem_of_getElem? hk);obtain⟨es,he⟩:=this.1;exact⟨⟨es,he.keeps hK (hb.block x.1 he.own.lt (Wa h.apart hk hr (fun e=>hik e.symm)))⟩,this.2⟩
 ·rw[Ql];exact h.apart
theorem j6.swap (h:j6 w g R n) {i j:Nat} {a b:jI} (hi:R[i]? =some a) (hj:R[j]? =some b):j6 ((w.setCell ⟨g,i,none⟩ (kK n b)).setCell ⟨g,j,none⟩ (kK n a)) g (qu R i j) n:=by
 have hB:jh g w ((w.setCell ⟨g,i,none⟩ (kK n b)).setCell ⟨g,j,none⟩ (kK n a)):=((jh.refl g w).setCell ⟨g,i,none⟩ rfl _).setCell ⟨g,j,none⟩ rfl _;have hK:=kp.but hB h.own (Zy n R);refine⟨?_,?_,?_⟩
 ·rw[ZK hi hj,List.map_set,List.map_set]
  exact(h.own.put _ _).put _ _
 ·intro x hx
  have hx:=ZJ hx;have:=h.row x hx;obtain⟨es,he⟩:=this.1;exact⟨⟨es,he.keeps hK (hB.block x.1 he.own.lt (fun e=>h.gne hx e.symm))⟩,this.2⟩
 ·exact((XN R i j).map _).nodup_iff.2 h.apart
theorem j6.lt (h:j6 w g R n) {k:Nat} (hk:k=g∨k∈R.map (·.1)):k<w.heap.size:=by
 rcases hk with rfl | hk
 ·exact h.own.lt
 ·obtain⟨r,hr,rfl⟩:=List.mem_map.1 hk
  obtain⟨es,he⟩:=(h.row r hr).1;exact he.own.lt
end
def kH (w:World) (base:Nat) (v:Value) (V:List Rat):Prop:=
 ∃es:List El,w.ownsRow base 122 3 v V.length (jz es)∧es.length=V.length∧kq w kr v ∧ ∀(i:Nat) (e:El) (q:Rat),es[i]? =some e→V[i]? =some q→Rt w (kX e) q
theorem kH.keep {w w':World} {base:Nat} {v:Value} {V:List Rat} (h:kH w base v V) (hK:kp w w') (hk:∀k,v.ownBlock=some k→w'.heap[k]? =w.heap[k]?):kH w' base v V:=by
 obtain⟨es,h1,h2,h3,h4⟩:=h;exact⟨es,xh h1 (fun k _ hv=>hk k hv),h2,h3.same hk,fun i e q he hq=>(h4 i e q he hq).keeps hK⟩
theorem kH.form {w:World} {base:Nat} {v:Value} {V:List Rat} (h:kH w base v V):∃A c,v = .slice A V.length c∧V.length≤c∧c≤maxLen:=by
 obtain⟨es,h1,_⟩:=h;exact j8 h1
theorem kH.lt {w:World} {base:Nat} {v:Value} {V:List Rat} (h:kH w base v V) (k:Nat) (hk:v.ownBlock=some k):base≤k∧k<w.heap.size:=by
 obtain⟨es,h1,_⟩:=h;exact h1.lt k hk
def qR {T:Type} (z:T) (g:T→T→T) (o k:Nat) (L P:List T):List T:=L.mapIdx fun j y=>if o≤j∧j<o+k then g y (P[j]?.getD z) else y
section
variable {T:Type} (z:T) (g:T→T→T) (o k:Nat) (L P:List T)
theorem Z0:(qR z g o k L P).length=L.length:=by simp[qR]
theorem FY:qR z g o 0 L P=L:=by
 apply List.ext_getElem?;intro j;simp only[qR,List.getElem?_mapIdx,Nat.add_zero]
 cases L[j]? with
 | none=>rfl
 | some x=>simp only[Option.map_some];rw[if_neg (by omega)]
theorem Mo:(qR z g o k L P)[o+k]? =L[o+k]? :=by
 simp only[qR,List.getElem?_mapIdx,Nat.lt_irrefl,and_false,if_false];cases L[o+k]? <;> simp
theorem Mp (y:T) (hy:L[o+k]? =some y):(qR z g o k L P).set (o+k) (g y (P[o+k]?.getD z))=qR z g o (k+1) L P:=by
 have h:=(List.getElem?_eq_some_iff.1 hy).1;apply List.ext_getElem?;intro j;rw[List.getElem?_set];simp only[qR,List.getElem?_mapIdx,List.length_mapIdx];by_cases hj:o+k=j
 ·subst hj;rw[if_pos rfl,if_pos h,hy];simp
 ·rw[if_neg hj]
  rcases Nat.lt_or_ge j L.length with hl | hl
  ·rw[List.getElem?_eq_getElem hl]
   simp only[Option.map_some,Option.some.injEq];by_cases h2:o≤j∧j<o+k
   ·rw[if_pos h2,if_pos (by omega)]
   ·rw[if_neg h2,if_neg (by omega)]
  ·rw[List.getElem?_eq_none hl];rfl
theorem FW (y:T) (hy:L[o+k]? =some y) (hf:g y (P[o+k]?.getD z)=y):qR z g o (k+1) L P=qR z g o k L P:=by
 rw[←Mp z g o k L P y hy,hf];apply List.ext_getElem?;intro j;rw[List.getElem?_set,Z0];by_cases hj:o+k=j
 ·subst hj;rw[Mo,hy];simp[(List.getElem?_eq_some_iff.1 hy).1]
 ·rw[if_neg hj]
end
def yj (f y x:Rat):Rat:=if x=0 then y else y-f*x
def zW (o n:Nat) (L P:List Rat):List Rat:=if L[o]?.getD 0=0 then L else qR 0 (yj (L[o]?.getD 0)) o n L P
theorem RF (o n:Nat) (L P:List Rat) (h:o+n=L.length):zW o n L P=yD jm o L P:=by
 unfold zW yD;have hz:jm.z=0:=rfl
 have hi:∀x,(jm.isZ x=true)=(x=0):=fun x=>by simp[jm]
 rw[hz];simp only[hi];split
 ·rfl
 ·unfold qR
  apply List.ext_getElem?;intro j;simp only[List.getElem?_mapIdx];rcases Nat.lt_or_ge j L.length with hl | hl
  ·rw[List.getElem?_eq_getElem hl]
   simp only[Option.map_some,Option.some.injEq];by_cases h2:o≤j
   ·rw[if_pos ⟨h2,by omega⟩,if_pos h2];simp[yj,jm]
   ·rw[if_neg (by omega),if_neg h2]
  ·rw[List.getElem?_eq_none hl];rfl
theorem WG (w:World):(nilAhead 444 172 (.agg #[]) "talisman/algebra.minus").run Tryz.prog w = .ok (some false) w:=by kernel_rfl
def Qy (o:Nat) (L P:List Rat):Prop:=kA (L[o]?.getD 0) ∧ ∀j,o≤j→j<L.length→kA (P[j]?.getD 0)∧xM (L[j]?.getD 0) (L[o]?.getD 0*P[j]?.getD 0)
def zR (row col:Nat) (S:jP Rat):Prop:=
 (∀x∈xJ (qp row S) S.cols.length,kA x) ∧
 ∀(i:Nat) (r:jI),(elDiv jm row col S)[i]? =some r→i≠S.cols.length→Qy col r.2.2 (xJ (elDiv jm row col S) S.cols.length)
def qT (n:Nat):Nat→Nat→jP Rat→Prop
 | 0,_,_=>True
 | k+1,fr,S=>match qN jm S.rows S.cols.length (n-fr) fr with
  | none=>True
  | some (row,col)=>zR row col S∧qT n k (col+1) (kW jm row col S)
theorem qT.some {n k fr row col:Nat} {S:jP Rat} (h:qT n (k+1) fr S) (hp:qN jm S.rows S.cols.length (n-fr) fr=some (row,col)):zR row col S∧qT n k (col+1) (kW jm row col S):=by
 unfold qT at h;rw[hp] at h;exact h
theorem kp.trans {a b c:World} (h:kp a b) (k:kp b c):kp a c:=by
 refine⟨Nat.le_trans h.1 k.1,fun i hi=> ?_⟩;rcases h.2 i hi with e1 | e1
 ·rcases k.2 i (Nat.lt_of_lt_of_le hi h.1) with e2 | e2
  ·exact .inl (e2.trans e1)
  ·exact .inr fun cur e fr hh c hc=>e2 cur e fr (e1.trans hh) c hc
 ·exact .inr e1
theorem V8 {w:World} {base:Nat} {e:TypeId} {size:Nat} {v:Value} {n:Nat} {xs:List Value} (h:w.ownsRow base e size v n xs):kf v:=by
 obtain⟨A,c,rfl,_⟩:=j8 h;exact jq _ _ _
theorem Zj {w:World} {base px:Nat} {t e:TypeId} {size n:Nat} {v:Value} {cs xs:List Value} (hO:ja w px t cs) (h:w.ownsRow base e size v n xs) (hte:t≠e):v.ownBlock≠some px:=by
 intro hv
 rcases h.2 with ⟨rfl,_⟩ | ⟨g,cap,cur,rfl,_,hg,_⟩
 ·simp[Value.ownBlock] at hv
 ·simp[Value.ownBlock] at hv
  subst hv;unfold ja at hO;rw[hO] at hg
  injection hg with hg
  injection hg with _ hg
  exact hte hg
theorem Qb {B B':Nat} {a:World} {e e':TypeId} {s s':Nat} {v v':Value} {n n':Nat} {xs xs':List Value} (h:a.ownsRow B e s v n xs) (h':a.ownsRow B' e' s' v' n' xs') (hee:e≠e') (k:Nat) (hk:v.ownBlock=some k):v'.ownBlock≠some k:=by
 intro hk'
 rcases h.2 with ⟨rfl,_⟩ | ⟨g,cap,cur,rfl,_,hg,_⟩
 ·simp[Value.ownBlock] at hk
 ·rcases h'.2 with ⟨rfl,_⟩ | ⟨g',cap',cur',rfl,_,hg',_⟩
  ·simp[Value.ownBlock] at hk'
  ·simp[Value.ownBlock] at hk hk'
   subst hk hk';rw[hg] at hg'
   injection hg' with hg'
   injection hg' with _ hg'
   exact hee hg'
theorem U5 (es:List El) (e:El):jz (es++[e])=jz es++Jt e:=by
 induction es with
 | nil=>rfl
 | cons a t ih=>simp only[List.cons_append,jz,ih]
structure zp (n g:Nat) (R:List jI) (w wr:World) (S:jP Rat) (fr:Nat) (cv pv:Value):Prop where
 mx:j6 wr g S.rows n
 out:ja wr w.heap.size 169 [jr,jr,jr,.bool false]
 res:ja wr (w.heap.size+1) 169 [jr,cv,pv,.bool S.odd]
 cown:wr.ownsRow (w.heap.size+2) 3 1 cv S.cols.length (jp S.cols)
 cin:kq wr kr cv
 pown:kH wr (w.heap.size+2) pv S.piv
 same:S.piv.length=S.cols.length
 len:S.rows.length=R.length
 perm:List.Perm (S.rows.map (·.1)) (R.map (·.1))
 hfr:fr≤n
 go:j3 jm n (R.length-S.cols.length) fr S=j3 jm n R.length 0 ⟨R,[],[],false⟩
 ok:qT n (R.length-S.cols.length) fr S
 buts:jO (g::R.map (·.1)) w wr
def Q4 (n g c:Nat) (R:List jI) (w:World) (e:Ending) (w':World):Prop:=
 ∃S,S=j3 jm n R.length 0 ⟨R,[],[],false⟩ ∧ ∃cv pv,e = .returned (.agg #[.slice (some ⟨g,0,none⟩) S.piv.length c,cv,pv,.bool S.odd]) ∧
  j6 w' g S.rows n∧w'.ownsRow w.heap.size 3 1 cv S.cols.length (jp S.cols)∧kH w' w.heap.size pv S.piv ∧
  S.piv.length=S.cols.length∧S.piv.length≤S.rows.length∧S.rows.length=R.length∧List.Perm (S.rows.map (·.1)) (R.map (·.1))∧jO (g::R.map (·.1)) w w'
structure ky (n g:Nat) (R:List jI) (w wr:World) (C:List Nat) (V:List Rat) (Q:List jI) (odd:Bool) (cv pv:Value):Prop where
 mx:j6 wr g Q n
 out:ja wr w.heap.size 169 [jr,jr,jr,.bool false]
 res:ja wr (w.heap.size+1) 169 [jr,cv,pv,.bool odd]
 cown:wr.ownsRow (w.heap.size+2) 3 1 cv C.length (jp C)
 cin:kq wr kr cv
 pown:kH wr (w.heap.size+2) pv V
 len:Q.length=R.length
 perm:List.Perm (Q.map (·.1)) (R.map (·.1))
 lt:∀k,k=g∨k∈R.map (·.1)→k<w.heap.size
 buts:jO (g::R.map (·.1)) w wr
section
variable {n g:Nat} {R Q:List jI} {w w1 w2:World} {S:jP Rat} {C:List Nat} {V:List Rat} {fr i:Nat} {odd:Bool} {cv pv:Value}
theorem Xv {R:List jI} {i j:Nat} :jm.isZ (kB jm R i j)=decide (zG R i j=0):=rfl
theorem kH.noInt {base:Nat} {v:Value} {V:List Rat} (h:kH w base v V):kf v:=by
 obtain⟨es,h1,_⟩:=h;exact V8 h1
theorem kH.below {base:Nat} {v:Value} {V:List Rat} (h:kH w base v V) (hb:Below w.heap.size w w1):kH w1 base v V:=
 h.keep (kp.below hb) fun k hk=>hb.block k (h.lt k hk).2
theorem qL {e:TypeId} {size base m:Nat} {xs:List Value} (h:kq w kr cv) (ho:w.ownsRow base e size cv m xs) (hb:Below w.heap.size w w1):kq w1 kr cv:=
 h.same fun k hk=>hb.block k (ho.lt k hk).2
theorem zp.below (h:zp n g R w w1 S fr cv pv) (hb:Below w1.heap.size w1 w2):zp n g R w w2 S fr cv pv:=
 ⟨h.mx.below hb,h.out.below hb h.out.lt,h.res.below hb h.res.lt,kC h.cown hb,qL h.cin h.cown hb,h.pown.below hb,h.same,h.len,h.perm,h.hfr,h.go,h.ok,h.buts.below hb⟩
theorem zp.mid (HM:j6 w g R n) (h:zp n g R w w1 S fr cv pv):ky n g R w w1 S.cols S.piv S.rows S.odd cv pv:=
 ⟨h.mx,h.out,h.res,h.cown,h.cin,h.pown,h.len,h.perm,fun _ hk=>HM.lt hk,h.buts⟩
theorem ky.below (h:ky n g R w w1 C V Q odd cv pv) (hb:Below w1.heap.size w1 w2):ky n g R w w2 C V Q odd cv pv:=
 ⟨h.mx.below hb,h.out.below hb h.out.lt,h.res.below hb h.res.lt,kC h.cown hb,qL h.cin h.cown hb,h.pown.below hb,h.len,h.perm,h.lt,h.buts.below hb⟩
theorem ky.drew (h:ky n g R w w1 C V Q odd cv pv):ky n g R w w1.drew C V Q odd cv pv:=h.below ((Below.refl _ _).drew)
theorem ky.resNo (h:ky n g R w w1 C V Q odd cv pv):∀c∈[jr,cv,pv,.bool odd],kf c:=by
 intro c hc;simp only[List.mem_cons,List.not_mem_nil,or_false] at hc;rcases hc with rfl | rfl | rfl | rfl
 ·exact jq _ _ _
 ·exact V8 h.cown
 ·exact h.pown.noInt
 ·exact js _
theorem ky.swap (h:ky n g R w w1 C V Q odd cv pv) {i j:Nat} {a b:jI} (hi:Q[i]? =some a) (hj:Q[j]? =some b):
  ky n g R w (((w1.setCell ⟨g,i,none⟩ (kK n b)).setCell ⟨g,j,none⟩ (kK n a)).drew) C V (qu Q i j) odd cv pv:=by
 have hg:=h.lt g (.inl rfl)
 have hB:jh g w1 (((w1.setCell ⟨g,i,none⟩ (kK n b)).setCell ⟨g,j,none⟩ (kK n a)).drew):=by
  have:=((jh.refl g w1).setCell ⟨g,i,none⟩ rfl (kK n b)).setCell ⟨g,j,none⟩ rfl (kK n a);exact⟨this.os,this.tape,this.output,this.size,this.block⟩
 have hK:=kp.but hB h.mx.own (Zy n Q);refine⟨(h.mx.swap hi hj).below ((Below.refl _ _).drew),h.out.but hB (by omega),h.res.but hB (by omega),K6 h.cown hB (by omega),h.cin.same (fun k hk=>hB.block k (h.cown.lt k hk).2 (by have:=(h.cown.lt k hk).1;omega)),h.pown.keep hK (fun k hk=>hB.block k (h.pown.lt k hk).2 (by have:=(h.pown.lt k hk).1;omega)),by rw[GN,h.len],((XN Q i j).map _).trans h.perm,h.lt,h.buts.but hB (by simp)⟩
theorem ky.setOdd (h:ky n g R w w1 C V Q odd cv pv) (b:Bool):ky n g R w (w1.setCell ⟨w.heap.size+1,3,none⟩ (.bool b)) C V Q b cv pv:=by
 have hB:jh (w.heap.size+1) w1 (w1.setCell ⟨w.heap.size+1,3,none⟩ (.bool b)):=(jh.refl _ w1).setCell ⟨w.heap.size+1,3,none⟩ rfl (.bool b);have hK:=kp.but hB h.res h.resNo;refine⟨h.mx.keep hK (fun k hk=>hB.block k (h.mx.lt hk) (by have:=h.lt k (hk.imp id fun x=>h.perm.mem_iff.1 x);omega)),h.out.but hB (by omega),?_,K6 h.cown hB (by omega),h.cin.same (fun k hk=>hB.block k (h.cown.lt k hk).2 (by have:=(h.cown.lt k hk).1;omega)),h.pown.keep hK (fun k hk=>hB.block k (h.pown.lt k hk).2 (by have:=(h.pown.lt k hk).1;omega)),h.len,h.perm,h.lt,h.buts.setNew _ (by simp) _⟩;exact h.res.put 3 (.bool b)
theorem ky.setRow (h:ky n g R w w1 C V Q odd cv pv) {r:jI} (hr:Q[i]? =some r) {L:List Rat} (hO:∃es,jo w2 r.1 es L) (hl:L.length=n) (hb:jh r.1 w1 w2):
  ky n g R w w2 C V (setRow Q i L) odd cv pv:=by
 have hrb:r.1∈R.map (·.1):=h.perm.mem_iff.1 (List.mem_map_of_mem (List.mem_of_getElem? hr));have hlt:=h.lt r.1 (.inr hrb);obtain⟨es0,he0⟩:=(h.mx.row r (List.mem_of_getElem? hr)).1;have hK:=kp.but hb he0.own he0.noInt;exact⟨h.mx.setRow hr hO hl hb,h.out.but hb (by omega),h.res.but hb (by omega),K6 h.cown hb (by omega),h.cin.same (fun k hk=>hb.block k (h.cown.lt k hk).2 (by have:=(h.cown.lt k hk).1;omega)),h.pown.keep hK (fun k hk=>hb.block k (h.pown.lt k hk).2 (by have:=(h.pown.lt k hk).1;omega)),by rw[ZA];exact h.len,by rw[Ql];exact h.perm,h.lt,h.buts.but hb (List.mem_cons_of_mem _ hrb)⟩
theorem jo.rowKeep {px:Nat} {e:El} {x:Rat} (hp:jo w1 px [e] [x]) (hlt:w.heap.size≤px) (h:ky n g R w w1 C V Q odd cv pv) {r:jI} (hr:Q[i]? =some r) (hb:jh r.1 w1 w2):jo w2 px [e] [x]:=by
 have hrb:r.1∈R.map (·.1):=h.perm.mem_iff.1 (List.mem_map_of_mem (List.mem_of_getElem? hr));have:=h.lt r.1 (.inr hrb);obtain⟨es0,he0⟩:=(h.mx.row r (List.mem_of_getElem? hr)).1;exact hp.keeps (kp.but hb he0.own he0.noInt) (hb.block px hp.own.lt (by omega))
theorem ky.addCol (h:ky n g R w w1 C V Q odd cv pv) {o:Obj} {v5:Value} {j:Nat} (hown:w2.ownsRow (w.heap.size+2) 3 1 v5 (C.length+1) (jp C++[.int .i64 (j:Int)])) (hall:kq w2 kr v5) (hg:(w1.alloc o).grownBy w2 cv.ownBlock):
  ja w2 (w.heap.size+1) 169 [jr,cv,pv,.bool odd]∧ky n g R w (w2.setCell ⟨w.heap.size+1,1,none⟩ v5) (C++[j]) V Q odd v5 pv ∧
  (∀(px:Nat) (e:El) (x:Rat),w.heap.size+2≤px→jo w1 px [e] [x]→jo (w2.setCell ⟨w.heap.size+1,1,none⟩ v5) px [e] [x]):=by
 have ha:Below w1.heap.size w1 (w1.alloc o):=(Below.refl _ _).alloc (Nat.le_refl _) _;have hm:=h.below ha
 have hcv:∀k,cv.ownBlock=some k→w.heap.size+2≤k:=fun k hk=>(hm.cown.lt k hk).1
 have hX:=hm.res.grown hg (fun e=>by have:=hcv _ e;omega);have hlt:=h.lt;have hK1:=kp.grown hg hm.cown hm.cin;have hB:jh (w.heap.size+1) w2 (w2.setCell ⟨w.heap.size+1,1,none⟩ v5):=(jh.refl _ w2).setCell ⟨w.heap.size+1,1,none⟩ rfl v5;have hK2:=kp.but hB hX hm.resNo;have hK:=hK1.trans hK2;have hsz:=hg.size
 have hbl:∀k,k<(w1.alloc o).heap.size→k≠w.heap.size+1→cv.ownBlock≠some k→(w2.setCell ⟨w.heap.size+1,1,none⟩ v5).heap[k]? =(w1.alloc o).heap[k]? :=fun k h1 h2 h3=>
  (hB.block k (by omega) h2).trans (hg.block k h1 (fun e=>h3 e.symm))
 refine⟨hX,⟨hm.mx.keep hK (fun k hk=> ?_),?_,hX.put 1 v5,?_,hall.same (fun k hk=>hB.block k (hown.lt k hk).2 (by have:=(hown.lt k hk).1;omega)),?_,h.len,h.perm,h.lt,(hm.buts.grown hg (fun k hk=>by have:=hcv k hk;omega)).setNew _ (by simp) _⟩,fun px e x hpx hq=> ?_⟩
 ·have hk':=h.lt k (hk.imp id fun x=>h.perm.mem_iff.1 x)
  exact hbl k (hm.mx.lt hk) (by omega) (fun e=>by have:=hcv k e;omega)
 ·exact(hbl _ hm.out.lt (by omega) (fun e=>by have:=hcv _ e;omega)).trans hm.out
 ·rw[xW,List.length_append]
  exact yf hown ⟨w.heap.size+1,1,none⟩ (by simp) _
 ·refine hm.pown.keep hK fun k hk=>hbl k (hm.pown.lt k hk).2 (by have:=(hm.pown.lt k hk).1;omega) ?_
  obtain⟨es,hp,_⟩:=hm.pown;exact Qb hp hm.cown (by decide) k hk
 ·have hq2:=hq.below ha
  exact hq2.keeps hK (hbl px hq2.own.lt (by omega) (Zj hq2.own hm.cown (by decide)))
theorem ky.addPiv (h:ky n g R w w1 C V Q odd cv pv) {es:List El} (ho:w1.ownsRow (w.heap.size+2) 122 3 pv V.length (jz es)) (hl:es.length=V.length) (ha0:kq w1 kr pv) (hr:∀(i:Nat) (e:El) (q:Rat),es[i]? =some e→V[i]? =some q→Rt w1 (kX e) q)
  {o:Obj} {v5:Value} {e:El} {x:Rat} (hx:Rt w1 (kX e) x) (hown:w2.ownsRow (w.heap.size+2) 122 3 v5 (V.length+1) (jz es++Jt e)) (hall:kq w2 kr v5) (hg:(w1.alloc o).grownBy w2 pv.ownBlock):
  ja w2 (w.heap.size+1) 169 [jr,cv,pv,.bool odd]∧ky n g R w (w2.setCell ⟨w.heap.size+1,2,none⟩ v5) C (V++[x]) Q odd cv v5:=by
 have ha:Below w1.heap.size w1 (w1.alloc o):=(Below.refl _ _).alloc (Nat.le_refl _) _;have hm:=h.below ha
 have hcv:∀k,pv.ownBlock=some k→w.heap.size+2≤k:=fun k hk=>(hm.pown.lt k hk).1
 have hX:=hm.res.grown hg (fun e=>by have:=hcv _ e;omega);have hlt:=h.lt;have hK1:=kp.grown hg (kC ho ha) (qL ha0 ho ha);have hB:jh (w.heap.size+1) w2 (w2.setCell ⟨w.heap.size+1,2,none⟩ v5):=(jh.refl _ w2).setCell ⟨w.heap.size+1,2,none⟩ rfl v5;have hK2:=kp.but hB hX hm.resNo;have hK:=hK1.trans hK2;have hsz:=hg.size
 have hbl:∀k,k<(w1.alloc o).heap.size→k≠w.heap.size+1→pv.ownBlock≠some k→(w2.setCell ⟨w.heap.size+1,2,none⟩ v5).heap[k]? =(w1.alloc o).heap[k]? :=fun k h1 h2 h3=>
  (hB.block k (by omega) h2).trans (hg.block k h1 (fun e=>h3 e.symm))
 have hcp:∀k,cv.ownBlock=some k→pv.ownBlock≠some k:=fun k hk=>Qb h.cown ho (by decide) k hk
 refine⟨hX,⟨hm.mx.keep hK (fun k hk=> ?_),?_,hX.put 2 v5,?_,?_,?_,h.len,h.perm,h.lt,(hm.buts.grown hg (fun k hk=>by have:=hcv k hk;omega)).setNew _ (by simp) _⟩⟩
 ·have hk':=h.lt k (hk.imp id fun x=>h.perm.mem_iff.1 x)
  exact hbl k (hm.mx.lt hk) (by omega) (fun e=>by have:=hcv k e;omega)
 ·exact(hbl _ hm.out.lt (by omega) (fun e=>by have:=hcv _ e;omega)).trans hm.out
 ·exact xh hm.cown fun k hk hv=>hbl k hk (by have:=(hm.cown.lt k hv).1;omega) (hcp k hv)
 ·exact hm.cin.same fun k hv=>hbl k (hm.cown.lt k hv).2 (by have:=(hm.cown.lt k hv).1;omega) (hcp k hv)
 ·refine⟨es++[e],?_,by simp[hl],hall.same (fun k hk=>hB.block k (hown.lt k hk).2 (by have:=(hown.lt k hk).1;omega)),fun i e' q he hq=> ?_⟩
  ·rw[U5,List.length_append]
   exact yf hown ⟨w.heap.size+1,2,none⟩ (by simp) _
  ·rcases Nat.lt_or_ge i es.length with hi | hi
   ·rw[List.getElem?_append_left hi] at he
    rw[List.getElem?_append_left (by omega)] at hq;exact((hr i e' q he hq).below ha).keeps hK
   ·rw[List.getElem?_append_right hi] at he
    rw[List.getElem?_append_right (by omega)] at hq;rw[←hl] at hq
    have h0:i-es.length=0:=by
     rcases Nat.eq_zero_or_pos (i-es.length) with h0 | h0
     ·exact h0
     ·rw[List.getElem?_eq_none (by simp;omega)] at he;cases he
    rw[h0] at he hq;simp at he hq;subst he hq;exact(hx.below ha).keeps hK
theorem ky.inv {wf:World} {i j:Nat} {Q':List jI} {x:Rat} (h:ky n g R w wf (S.cols++[j]) (S.piv++[x]) Q' odd cv pv) (hS:kW jm i j S=⟨Q',S.cols++[j],S.piv++[x],odd⟩) (hs:S.piv.length=S.cols.length) (hj:j<n) (hl:S.cols.length<R.length)
  (hp:qN jm S.rows S.cols.length (n-fr) fr=some (i,j)) (hgo:j3 jm n (R.length-S.cols.length) fr S=j3 jm n R.length 0 ⟨R,[],[],false⟩) (hok:qT n (R.length-S.cols.length) fr S):zp n g R w wf (kW jm i j S) (j+1) cv pv:=by
 have hgo':j3 jm n (R.length-(S.cols++[j]).length) (j+1) (kW jm i j S)=j3 jm n R.length 0 ⟨R,[],[],false⟩:=by
  rw[←hgo,show R.length-S.cols.length=(R.length-(S.cols++[j]).length)+1 by simp;omega,Vb hp]
 have hok':qT n (R.length-(S.cols++[j]).length) (j+1) (kW jm i j S):=by
  rw[show R.length-S.cols.length=(R.length-(S.cols++[j]).length)+1 by simp;omega] at hok;exact(hok.some hp).2
 rw[hS] at hgo' hok' ⊢;exact⟨h.mx,h.out,h.res,h.cown,h.cin,h.pown,by simp[hs],h.len,h.perm,hj,hgo',hok',h.buts⟩
end
theorem U9 {n g c:Nat} {R:List jI} {w wr wf:World} {S:jP Rat} {fr:Nat} {cv pv:Value} {e:Ending} (HM:j6 w g R n) (hE:zp n g R w wr S fr cv pv) (hS:S.cols.length≤R.length)
  (hgo:S=j3 jm n R.length 0 ⟨R,[],[],false⟩) (hB:Below w.heap.size wr wf) (h2:∀k,k≠w.heap.size→k≠w.heap.size+1→wf.heap[k]? =wr.heap[k]?) (he:e = .returned (.agg #[.slice (some ⟨g,0,none⟩) S.piv.length c,cv,pv,.bool S.odd])):Q4 n g c R w e wf:=by
 have hlt:∀k,k=g∨k∈S.rows.map (·.1)→k<w.heap.size:=fun k hk=>HM.lt (hk.imp id fun h=>hE.perm.mem_iff.1 h)
 have hM:=hE.mid HM
 have hK:kp wr wf:=by
  refine⟨hB.size,fun b hb=> ?_⟩;by_cases h0:b=w.heap.size
  ·subst h0
   refine .inr fun cur e fr hh x hx=> ?_
   have:=hE.out;unfold ja at this;rw[this] at hh
   injection hh with hh
   injection hh with hh _ _
   subst hh;simp at hx;rcases hx with rfl | rfl
   ·exact(jq _ _ _).noU
   ·exact(js _).noU
  ·by_cases h1:b=w.heap.size+1
   ·subst h1
    refine .inr fun cur e fr hh x hx=> ?_
    have:=hE.res;unfold ja at this;rw[this] at hh
    injection hh with hh
    injection hh with hh _ _
    subst hh;exact(hM.resNo x (by simpa using hx)).noU
   ·exact .inl (h2 b h0 h1)
 refine⟨S,hgo,cv,pv,he,hE.mx.keep hK (fun k hk=>hB.block k (hlt k hk)),?_,?_,hE.same,?_,hE.len,hE.perm,hE.buts.belowAt hB⟩
 ·exact JA (xh hE.cown fun k _ hv=>h2 k (by have:=(hE.cown.lt k hv).1;omega) (by have:=(hE.cown.lt k hv).1;omega)) (by omega)
 ·have hp:=hE.pown.keep hK (fun k hv=>h2 k (by have:=(hE.pown.lt k hv).1;omega) (by have:=(hE.pown.lt k hv).1;omega))
  obtain⟨es,h1,h2,h3,h4⟩:=hp;exact⟨es,JA h1 (by omega),h2,h3,h4⟩
 ·rw[hE.same,hE.len];exact hS
