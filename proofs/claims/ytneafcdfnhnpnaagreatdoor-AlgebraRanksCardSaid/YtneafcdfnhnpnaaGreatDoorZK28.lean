/- Contract: product of two lists of rational numbers. -/
import Derived.Test.YtneafcdfnhnpnaaGreatDoorZK27
set_option maxRecDepth 100000
set_option maxHeartbeats 8000000
namespace Go.Proofs.YtneafcdfnhnpnaaGreatDoor
open Go.RowKit Go.Lib
attribute [local go_sem ↓] Go.wp_at_zero Go.wp_at_succ
def xI (L P:List Rat):Nat→Rat
 | 0=>0
 | k+1=>xI L P k+L[k]?.getD 0*P[k]?.getD 0
def Yb (L P:List Rat):Prop:=∀k,k<L.length→kA (L[k]?.getD 0)∧kA (P[k]?.getD 0)∧xM (xI L P k) (L[k]?.getD 0*P[k]?.getD 0)
theorem Ao (w:World) (b1 b2 n c1 c2:Nat) (es1 es2:List El) (L P:List Rat) (h1:jo w b1 es1 L) (h2:jo w b2 es2 P) (hn:n=L.length) (hn2:L.length=P.length) (hn1:n≤1000000) (hok:Yb L P):
  Calls Tryz.prog 158 #[.slice (some ⟨b1,0,none⟩) n c1,.slice (some ⟨b2,0,none⟩) n c2] w (qC (xI L P n) w):=by
 have H1:=hid h1;have H2:=hid h2;have HN:=hid hn;have HN2:=hid hn2;have HOK:=hid hok;have HO0:=hid (ja.make w 122 [.bool false,.slice none 0 0,.slice none 0 0]);have RO:=hid (fun W=>(by simpa using Kj 0 W (by omega) (by omega):Calls Tryz.prog 125 #[.int .i64 0] W (qC 0 W)));clear h1 h2 hn hn2 hok;go_enter Tryz.func158,Tryz.ntmps158
 go_wp2_with fail
 refine(RO.out _).mono ?_;rintro e w1 ⟨zv,rfl,hzv,hB1⟩;obtain⟨zs,Z1,zn1,zc1,Z2,zn2,zc2,rfl⟩:=hzv.shape;have hal0:Below w.heap.size w (w.alloc (.cells #[.bool false,.slice none 0 0,.slice none 0 0] 122)):=(Below.refl _ _).alloc (Nat.le_refl _) _;have hB01:Below w.heap.size w w1:=hal0.trans (hB1.mono hal0.size);have HO1:=hid (HO0.out.below hB1 HO0.out.lt);have hal:Below w1.heap.size w1 (w1.alloc (.cells #[.bool zs,.slice Z1 zn1 zc1,.slice Z2 zn2 zc2] 122)):=(Below.refl _ _).alloc (Nat.le_refl _) _
 have HV:Hid (∃s B1 m1 k1 B2 m2 k2,jo (w1.alloc (.cells #[.bool zs,.slice Z1 zn1 zc1,.slice Z2 zn2 zc2] 122)) w1.heap.size [(s,.slice B1 m1 k1,.slice B2 m2 k2)] [xI L P 0]):=hid ⟨zs,Z1,zn1,zc1,Z2,zn2,zc2,ja.make w1 _ [.bool zs,.slice Z1 zn1 zc1,.slice Z2 zn2 zc2],Nat.le_refl _,fun e' he'=>by simp at he';subst he';exact⟨jq _ _ _,jq _ _ _⟩,fun i e' q h1 h2=>by
   cases i with
   | zero=>simp at h1 h2;subst h1 h2;exact hzv.below hal
   | succ i=>simp at h1⟩
 have HB2:=hid (hB01.trans (hal.mono hB01.size));have HO2:=hid (HO1.out.below hal HO1.out.lt);have hvb:w.heap.size<w1.heap.size:=HO1.out.lt;have hRl1:=H1.out.own.lt;have hRl2:=H2.out.own.lt;clear hzv hB1 hal0 hB01 hal HO0 HO1 RO
 go_wp2_with fail
 obtain⟨W2,hW2⟩:∃W2,W2=w1.alloc (.cells #[.bool zs,.slice Z1 zn1 zc1,.slice Z2 zn2 zc2] 122):=⟨_,rfl⟩
 rw[←hW2] at HV HB2 HO2;rw[←hW2];clear hW2;generalize w1.heap.size=vb at *
 go_loopg [11] n (fun gh ix wx=>∃i:Nat,ix = .int .i64 i∧i+gh=n∧Hid (Below w.heap.size w wx)∧Hid (ja wx w.heap.size 122 [.bool false,.slice none 0 0,.slice none 0 0])∧Hid (∃s B1 m1 k1 B2 m2 k2,jo wx vb [(s,.slice B1 m1 k1,.slice B2 m2 k2)] [xI L P i]))
 case atStart=>exact⟨0,rfl,by omega,HB2,HO2,HV⟩
 case round=>
  clear HB2 HO2 HV;obtain⟨i,rfl,hi,hWx,hOx,hVx⟩:=hrel;obtain⟨vs,V1,vn1,vc1,V2,vn2,vc2,hV⟩:=hVx.out;obtain⟨v0,v1,v2,u0,u1,u2⟩:=hV.own.three;have hvl:=hV.own.lt;have HV:=hid hV;clear hV hVx
  cases gk with
  | zero=>
   have hin3:¬((i:Int)<(n:Int)):=by omega
   obtain⟨e0,e1,e2,f0,f1,f2⟩:=hOx.out.three;have hrt:=HV.out.num 0 _ _ rfl rfl;rw[show i=n by omega] at hrt;have HF:=hid (Zu (s:=[]) hrt hOx.out (jO.of_below (hWx.out.mono (Nat.le_refl _))) (Nat.le_refl _));have HBf:=hid (((hWx.out.setCell (p:=⟨w.heap.size,0,none⟩) (Nat.le_refl _) (.bool vs)).setCell (p:=⟨w.heap.size,1,none⟩) (Nat.le_refl _) (.slice V1 vn1 vc1)).setCell (p:=⟨w.heap.size,2,none⟩) (Nat.le_refl _) (.slice V2 vn2 vc2));have hol:=hOx.out.lt;clear hrt
   go_wp2
   exact bodyPost_ret (v:= .agg #[.bool vs,.slice V1 vn1 vc1,.slice V2 vn2 vc2]) (by simp[results,Tryz.results158,go_sem,e0,e1,e2]) rfl ⟨_,rfl,HF.out.1,HBf.out⟩
  | succ gh2=>
   have hil:i<n:=by omega
   have hil':(i:Int)<(n:Int):=by omega
   have hiL:i<L.length:=by rw[←HN.out];exact hil
   have hR1:=H1.out.below hWx.out;have hR2:=H2.out.below hWx.out;obtain⟨ea,A1,an1,ac1,A2,an2,ac2,zz0,hea,hrta,p0,p1,p2,zz1,zz2,zz3⟩:=hR1.at_ (j:=i) hiL;clear zz0 zz1 zz2 zz3;obtain⟨eb,Q1,qn1,qc1,Q2,qn2,qc2,zz0,heb,hrtb,q0,q1,q2,zz1,zz2,zz3⟩:=hR2.at_ (j:=i) (by rw[←HN2.out];exact hiL);clear zz0 zz1 zz2 zz3;obtain⟨as_,a1,a2⟩:=ea
   have hea':a1 = .slice A1 an1 ac1∧a2 = .slice A2 an2 ac2:=by simpa using hea
   obtain⟨rfl,rfl⟩:=hea';obtain⟨bs_,b3,b4⟩:=eb
   have heb':b3 = .slice Q1 qn1 qc1∧b4 = .slice Q2 qn2 qc2:=by simpa using heb
   obtain⟨rfl,rfl⟩:=heb';clear hea heb;unfold kX at hrta hrtb;dsimp only at p0 q0 hrta hrtb;have hb1l:=hR1.own.lt;have hb2l:=hR2.own.lt;obtain⟨fo1,fo2,fo3⟩:=HOK.out i hiL;have hal3:Below wr.heap.size wr (wr.alloc (.cells #[.bool as_,.slice A1 an1 ac1,.slice A2 an2 ac2] 122)):=(Below.refl _ _).alloc (Nat.le_refl _) _;have hPX:=ja.make wr 122 [.bool as_,.slice A1 an1 ac1,.slice A2 an2 ac2];have Hi:=hid hi
   go_upto_region 5 with fail
   obtain⟨W3,hW3⟩:∃W3,W3=wr.alloc (.cells #[.bool as_,.slice A1 an1 ac1,.slice A2 an2 ac2] 122):=⟨_,rfl⟩
   rw[←hW3] at hal3 hPX;rw[←hW3];clear hW3;have hV3:=HV.out.below hal3;obtain⟨x0,x1,x2,y0,y1,y2⟩:=hV3.own.three;obtain⟨t0,t1,t2,zz1,zz2,zz3⟩:=hPX.three;clear zz1 zz2 zz3;have s0:=(hal3.cell (p:=⟨b2,i*3,none⟩) hb2l).trans q0;have s1:=(hal3.cell (p:=⟨b2,i*3+1,none⟩) hb2l).trans q1;have s2:=(hal3.cell (p:=⟨b2,i*3+2,none⟩) hb2l).trans q2;have hvl3:=hV3.own.lt;have hpx3:=hPX.lt;have hb2l3:b2<W3.heap.size:=Nat.lt_of_lt_of_le hb2l hal3.size;have TM:=hid (fun (W:World) (h:Rt W (.agg #[.bool as_,.slice A1 an1 ac1,.slice A2 an2 ac2]) (L[i]?.getD 0)) (h':Rt W (.agg #[.bool bs_,.slice Q1 qn1 qc1,.slice Q2 qn2 qc2]) (P[i]?.getD 0))=>WP _ _ _ _ W h h' fo1.1 fo1.2 fo2.1 fo2.2);have PL:=hid (fun (W:World) (u:Value) (h:Rt W (.agg #[.bool vs,.slice V1 vn1 vc1,.slice V2 vn2 vc2]) (xI L P i)) (h':Rt W u (L[i]?.getD 0*P[i]?.getD 0))=>WM _ u _ _ W h h' fo3);have XA:=hid (hrta.below hal3);have XB:=hid (hrtb.below hal3);have XV:=hid (hV3.num 0 _ _ rfl rfl);have HV3:=hid hV3;have HW3:=hid (hWx.out.trans (hal3.mono hWx.out.size));have HO3:=hid (hOx.out.below hal3 hOx.out.lt);generalize wr.heap.size=px at *;clear v0 v1 v2 u0 u1 u2 p0 p1 p2 q0 q1 q2 hrta hrtb hR1 hR2 hal3 hPX hV3 fo1 fo2 fo3 hi HV hOx hWx hvl hb1l hb2l
   go_region_with (first
    | (go_at_call 110;refine(TM.out _ (XA.out.below (Below.refl _ _).drew) (XB.out.below (Below.refl _ _).drew)).mono ?_;rintro ee w3 ⟨tv,rfl,htv,hB3⟩;obtain⟨s5,A5,n5,c5,A6,n6,c6,rfl⟩:=htv.shape;have g0:=(hB3.cell (p:=⟨vb,0,none⟩) hvl3).trans x0;have g1:=(hB3.cell (p:=⟨vb,1,none⟩) hvl3).trans x1;have g2:=(hB3.cell (p:=⟨vb,2,none⟩) hvl3).trans x2;have i0:=(hB3.frozen (p:=⟨vb,0,none⟩) hvl3).trans y0;have i1:=(hB3.frozen (p:=⟨vb,1,none⟩) hvl3).trans y1;have i2:=(hB3.frozen (p:=⟨vb,2,none⟩) hvl3).trans y2;have hvl4:vb<w3.heap.size:=Nat.lt_of_lt_of_le hvl3 hB3.size;have HT3:=hid htv;have HB3:=hid hB3;clear htv hB3)
    | (go_at_call 108;refine(PL.out _ _ (XV.out.below (xn HB3.out)) HT3.out).mono ?_;rintro ee w4 ⟨mv,rfl,hmv,hB4⟩;obtain⟨s7,A7,n7,c7,A8,n8,c8,rfl⟩:=hmv.shape;have k0:=(hB4.cell (p:=⟨vb,0,none⟩) hvl4).trans g0;have k1:=(hB4.cell (p:=⟨vb,1,none⟩) hvl4).trans g1;have k2:=(hB4.cell (p:=⟨vb,2,none⟩) hvl4).trans g2;have l0:=(hB4.frozen (p:=⟨vb,0,none⟩) hvl4).trans i0;have l1:=(hB4.frozen (p:=⟨vb,1,none⟩) hvl4).trans i1;have l2:=(hB4.frozen (p:=⟨vb,2,none⟩) hvl4).trans i2;have HM4:=hid hmv;have HB4:=hid hB4;clear hmv hB4))
   all_goals (
    have HB14:Hid (Below W3.heap.size W3 w4):=hid ((xn HB3.out).trans (HB4.out.mono HB3.out.size))
    have HVt:Hid (∃s B1 m1 k1 B2 m2 k2,jo (((w4.setCell ⟨vb,0,none⟩ (.bool s7)).setCell ⟨vb,1,none⟩ (.slice A7 n7 c7)).setCell ⟨vb,2,none⟩ (.slice A8 n8 c8)) vb [(s,.slice B1 m1 k1,.slice B2 m2 k2)] [xI L P (i+1)]):=hid (by
     have:=(HV3.out.below HB14.out).put (j:=0) (e:=(s7,.slice A7 n7 c7,.slice A8 n8 c8)) (q:=xI L P (i+1)) (by simp) HM4.out
     exact⟨_,_,_,_,_,_,_,this⟩)
    have HWt:=hid ((((HW3.out.trans (HB14.out.mono HW3.out.size)).setCell (p:=⟨vb,0,none⟩) (Nat.le_of_lt hvb) (.bool s7)).setCell (p:=⟨vb,1,none⟩) (Nat.le_of_lt hvb) (.slice A7 n7 c7)).setCell (p:=⟨vb,2,none⟩) (Nat.le_of_lt hvb) (.slice A8 n8 c8))
    have hne:w.heap.size≠vb:=by omega
    have HOt:=hid ((HO3.out.below HB14.out HO3.out.lt).but (jh.set3 w4 vb 0 (.bool s7) (.slice A7 n7 c7) (.slice A8 n8 c8)) hne);clear x0 x1 x2 y0 y1 y2 t0 t1 t2 s0 s1 s2 g0 g1 g2 i0 i1 i2 k0 k1 k2 l0 l1 l2 HM4 HT3 HB3 HB4 TM PL XA XB XV HB14 HW3 HO3 HV3 hne
    go_wp2
    go_roundg gh2
    case rel=>exact⟨i+1,by go_num,by have:=Hi.out;omega,HWt,HOt,HVt⟩
    case measure=>omega)
end Go.Proofs.YtneafcdfnhnpnaaGreatDoor
namespace Go.Proofs.YtneafcdfnhnpnaaGreatDoor
open Go.RowKit
theorem FF {P:Program} (w:World) {ops:Array Oper} {rest:List Oper} {o:Oper} {a:Act} {Q:Exit→Act→World→Prop} (hgd:o.guard=none) (s x:Operand) (t:TypeId)
  (ho:o.op = .call { callee:= .builtin .append,args:= #[s,x],argTypes:= #[t,t] })
  (base:Nat) (e:TypeId) (i:TypeInfo) (z:Value) (size bytes:Nat) (ht:P.underlying t=some (.slice e)) (hi:P.info? e=some i) (hz:i.zero=some z)
  (hsize:i.size=size) (hby:i.bytes=bytes) (hzs:z.cells.size=size) (hsz:0<size)
  (v:Value) (n:Nat) (xs:List Value) (hs:a.eval s=v) (hown:w.ownsRow base e size v n xs)
  (ad:Addr) (m c:Nat) (news:List Value) (hx:a.eval x = .slice (some ad) m c) (hl:news.length=m*size) (hnews:∀j u,news[j]? =some u→w.cell? (ad.add j)=some u) (h1:∀u∈news,u.oneCell'=true)
  (h63:n+m≤maxLen) (hbytes:(n+m)*bytes≤140737488355328) (hbase:base≤w.heap.size) (hm:0<m)
  (Pc:Value→Prop) (hall:kq w Pc v) (hnw:∀u∈news,Pc u) (hzc:∀u∈z.cells.toList,Pc u)
  (h:∀v' w',w'.ownsRow base e size v' (n+m) (xs++news)→w.grownBy w' v.ownBlock→kq w' Pc v'→(v'.ownBlock=v.ownBlock∨v'.ownBlock=some w.heap.size)→wpList P ops Q rest (a.put o.dst v') w'):wpList P ops Q (o::rest) a w:=
 wpList_plain hgd fun K hK=>by
  obtain⟨v',w',hr,h2,h3,_,h5⟩:=run_append_own_at (P:=P) w base t o.type e i z size bytes ht hi hz hsize hby hzs hsz v n xs hown ad m c news hl hnews h1 h63 hbytes hbase;have h4:=Uq w base t o.type e i z size bytes ht hi hz hsize hby hzs hsz v n xs hown ad m c news hl hnews h1 h63 hbytes hm Pc hall hnw hzc hr;unfold Oper.wp execOp;simp only[ho,resolve,invoke,builtin,Sem.run_bind,Sem.run_pure,Result.andThen_ok,List.map_toArray,List.map_cons,List.map_nil,hs,hx,hr];exact hK _ _ (h v' w' h2 h3 h4 h5)
end Go.Proofs.YtneafcdfnhnpnaaGreatDoor
namespace Go.Proofs.YtneafcdfnhnpnaaGreatDoor
open Go.RowKit Go.Lib
def qk (w:World) (base:Nat) (v:Value) (B:List jI):Prop:=
 w.ownsRow base 167 1 v B.length (B.map fun r=>Value.slice (some ⟨r.1,0,none⟩) r.2.2.length r.2.1)∧kq w kr v ∧ ∀r∈B,(∃es,jo w r.1 es r.2.2)∧r.2.2.length≤r.2.1
theorem qk.below {w w':World} {base:Nat} {v:Value} {B:List jI} (h:qk w base v B) (hb:Below w.heap.size w w'):qk w' base v B:=
 ⟨kC h.1 hb,qL h.2.1 h.1 hb,fun r hr=>⟨by obtain⟨es,he⟩:=(h.2.2 r hr).1;exact⟨es,he.below hb⟩,(h.2.2 r hr).2⟩⟩
theorem qk.keep {w w':World} {base:Nat} {v:Value} {B:List jI} (h:qk w base v B) (hK:kp w w') (hv:∀k,v.ownBlock=some k→w'.heap[k]? =w.heap[k]?) (hk:∀r∈B,w'.heap[r.1]? =w.heap[r.1]?):qk w' base v B:=
 ⟨xh h.1 (fun k _ e=>hv k e),h.2.1.same hv,fun r hr=>⟨by obtain⟨es,he⟩:=(h.2.2 r hr).1;exact⟨es,he.keeps hK (hk r hr)⟩,(h.2.2 r hr).2⟩⟩
theorem qk.snoc {w w':World} {base:Nat} {v v':Value} {B:List jI} {r:jI} (h:qk w base v B) (hg:w.grownBy w' v.ownBlock) (hown:w'.ownsRow base 167 1 v' (B.length+1) (B.map (fun r=>Value.slice (some ⟨r.1,0,none⟩) r.2.2.length r.2.1)++[.slice (some ⟨r.1,0,none⟩) r.2.2.length r.2.1]))
  (hall:kq w' kr v') (hO:∃es,jo w r.1 es r.2.2) (hl:r.2.2.length≤r.2.1):qk w' base v' (B++[r]):=by
 have hK:=kp.grown hg h.1 h.2.1
 have hk:∀(k:Nat) (es:List El) (q:List Rat),jo w k es q→jo w' k es q:=fun k es q hq=>hq.keeps hK (hg.block k hq.own.lt (fun e=>Zj hq.own h.1 (by decide) e.symm))
 refine⟨by rw[List.map_append,List.length_append];exact hown,hall,fun x hx=> ?_⟩;rcases List.mem_append.1 hx with hx | hx
 ·have:=h.2.2 x hx
  obtain⟨es,he⟩:=this.1;exact⟨⟨es,hk _ _ _ he⟩,this.2⟩
 ·obtain rfl:=List.mem_singleton.1 hx
  obtain⟨es,he⟩:=hO;exact⟨⟨es,hk _ _ _ he⟩,hl⟩
theorem kH.snoc {w w':World} {base:Nat} {v v':Value} {V:List Rat} {es:List El} (ho:w.ownsRow base 122 3 v V.length (jz es)) (hl:es.length=V.length) (ha0:kq w kr v) (hr:∀(i:Nat) (e:El) (q:Rat),es[i]? =some e→V[i]? =some q→Rt w (kX e) q)
  {e:El} {x:Rat} (hx:Rt w (kX e) x) (hown:w'.ownsRow base 122 3 v' (V.length+1) (jz es++Jt e)) (hall:kq w' kr v') (hg:w.grownBy w' v.ownBlock):kH w' base v' (V++[x]):=by
 have hK:=kp.grown hg ho ha0;refine⟨es++[e],by rw[U5,List.length_append];exact hown,by simp[hl],hall,fun i e' q he hq=> ?_⟩;rcases Nat.lt_or_ge i es.length with hi | hi
 ·rw[List.getElem?_append_left hi] at he
  rw[List.getElem?_append_left (by omega)] at hq;exact(hr i e' q he hq).keeps hK
 ·rw[List.getElem?_append_right hi] at he
  rw[List.getElem?_append_right (by omega)] at hq;rw[←hl] at hq
  have h0:i-es.length=0:=by
   rcases Nat.eq_zero_or_pos (i-es.length) with h0 | h0
   ·exact h0
   ·rw[List.getElem?_eq_none (by simp;omega)] at he;cases he
  rw[h0] at he hq;simp at he hq;subst he hq;exact hx.keeps hK
theorem kH.grown {w w':World} {base:Nat} {v:Value} {V:List Rat} {u:Value} {e:TypeId} {s n:Nat} {xs:List Value} {base':Nat} (h:kH w base v V) (hg:w.grownBy w' u.ownBlock) (ho:w.ownsRow base' e s u n xs) (ha:kq w kr u) (hte:122≠e):kH w' base v V:=by
 refine h.keep (kp.grown hg ho ha) fun k hk=>hg.block k (h.lt k hk).2 ?_
 obtain⟨es,hp,_⟩:=h
 exact fun e'=>Qb hp ho hte k hk e'.symm
theorem qk.grown {w w':World} {base:Nat} {v:Value} {B:List jI} {u:Value} {s n:Nat} {xs:List Value} {base':Nat} (h:qk w base v B) (hg:w.grownBy w' u.ownBlock) (ho:w.ownsRow base' 122 s u n xs) (ha:kq w kr u) (hB:∀r∈B,u.ownBlock≠some r.1):qk w' base v B:=by
 refine h.keep (kp.grown hg ho ha) (fun k hk=>hg.block k (h.1.lt k hk).2 (fun e'=>Qb h.1 ho (by decide) k hk e'.symm)) (fun r hr=> ?_);obtain⟨es,he⟩:=(h.2.2 r hr).1;exact hg.block r.1 he.own.lt (fun e'=>hB r hr e'.symm)
def qh (M:List (List Rat)) (j:Nat):List Rat:=M.map fun L=>L[j]?.getD 0
def RT (n:Nat) (M:List (List Rat)) (b:List Rat) (w:World) (e:Ending) (w':World):Prop:=
 ∃ev B sv,e = .returned (.tuple #[ev,sv])∧B.map (·.2.2)=(List.range n).map (qh M)++[b]∧qk w' w.heap.size ev B∧kH w' w.heap.size sv (List.replicate n 0++[1])∧Below w.heap.size w w'
theorem Dq (w:World):Calls Tryz.prog 125 #[.int .i64 0] w (qC 0 w):=by simpa using Kj 0 w (by omega) (by omega)
theorem Dr (w:World):Calls Tryz.prog 125 #[.int .i64 1] w (qC 1 w):=by simpa using Kj 1 w (by omega) (by omega)
theorem RY (g c n bR cR:Nat) (R:List jI) (esR:List El) (b:List Rat) (w:World) (hM:j6 w g R n) (hc2:R.length≤1000000) (hn:n≤999999) (h0:R=[]→n=0)
  (hb:jo w bR esR b) (hbl:b.length=R.length) (hcR:b.length≤cR):
  Calls Tryz.prog 156 #[.slice (some ⟨g,0,none⟩) R.length c,.slice (some ⟨bR,0,none⟩) R.length cR] w (RT n (jv R) b w):=by
 have HM:=hid hM;have HB:=hid hb;have HBl:=hid hbl;have HcR:=hid hcR
 have WD:Hid (Calls Tryz.prog 159 #[.slice (some ⟨g,0,none⟩) R.length c] w fun e w'=>e = .returned (.int .i64 (n:Int))∧w=w'):=hid (by
  have h:=Qr g c n R w hM;by_cases hR:R=[]
  ·rw[if_pos hR] at h;rw[h0 hR];exact h
  ·rw[if_neg hR] at h;exact h)
 clear hM hb hbl hcR h0;obtain⟨i0,hi0,hz0,hz1,hz2⟩:=info_parts Vv;obtain⟨j0,hj0,hw0,hw1,hw2⟩:=info_parts KV;go_enter Tryz.func156,Tryz.ntmps156
 go_wp2_with (go_at_call 159;refine WD.out.mono ?_;rintro e w' ⟨rfl,rfl⟩)
 clear WD
 go_loopg [4,5,12] n (fun gh ev sv jx wr=>∃(j:Nat) (B:List jI),jx = .int .i64 j∧j+gh=n∧B.length=j∧Hid (B.map (·.2.2)=(List.range j).map (qh (jv R)))∧Hid (∀r∈B,∃cs,ja wr r.1 122 cs∧w.heap.size≤r.1∧sv.ownBlock≠some r.1)∧Hid (qk wr w.heap.size ev B)∧Hid (kH wr w.heap.size sv (List.replicate j 0))∧Hid (Below w.heap.size w wr))
 case atStart=>exact⟨0,[],rfl,by omega,rfl,hid rfl,hid (by simp),hid ⟨World.ownsRow_nil _ _ _ _,kq.nil _ _,by simp⟩,hid ⟨[],World.ownsRow_nil _ _ _ _,rfl,kq.nil _ _,fun i e q h=>by simp at h⟩,hid (Below.refl _ _)⟩
 case round=>
  obtain⟨j,B,rfl,hj,hBl,hBv,hBo,hE,hS,hW⟩:=hrel;obtain⟨A4,c4,hev,_,_⟩:=j8 hE.out.1;obtain⟨A5,c5,hsv,_,_⟩:=hS.out.form;rw[List.length_replicate] at hsv;rw[hBl] at hev;subst hev hsv;have hal:Hid (∀o:Obj,Below wr.heap.size wr (wr.alloc o)):=hid (fun o=>(Below.refl _ _).alloc (Nat.le_refl _) _);have hww:=hW.out.size
  cases gk with
  | zero=>
   have hin:¬((j:Int)<(n:Int)):=by omega
   have hjn:j=n:=by omega
   subst hjn;have hcb:b.length≤cR:=HcR.out;rw[←HBl.out];have HB2:=hid (HB.out.below hW.out);have hBR:bR<w.heap.size:=HB.out.own.lt;have hE1:=hE.out.1;rw[hBl] at hE1;have HE1:=hid hE1;have HBL:=hid hBl;clear hE1 hBl hj
   go_wp2_with (at_builtin;(refine Kv _ (o:=⟨some 45,_,_,_,_,_⟩) rfl _ _ 163 rfl w.heap.size 167 i0 (.slice none 0 0) 1 24 Tryz.underlying163 hi0 hz0 hz1 hz2 rfl (by decide) _ _ _ rfl (HE1.out.alloc _) ⟨wr.heap.size,0,none⟩ 1 1 [.slice (some ⟨bR,0,none⟩) b.length cR] rfl rfl (cell_one_new _ _ _) (fun x hx=>by simp at hx;subst hx;rfl) (by unfold maxLen;omega) (by omega) (by simp;omega) (by decide) kr (qL hE.out.2.1 HE1.out (hal.out _)) (Zd _ _ _) ZZ ?_;intro v7 w7 hown7 hgrow7 hall7))
   have hg7:(wr.alloc (.cells #[.slice (some ⟨bR,0,none⟩) b.length cR] 167)).grownBy w7 (Value.slice A4 j c4).ownBlock:=hgrow7;have HE7:Hid (qk w7 w.heap.size v7 (B++[(bR,cR,b)])):=hid ((hE.out.below (hal.out _)).snoc (r:=(bR,cR,b)) hg7 (by rw[HBL.out];exact hown7) hall7 ⟨esR,HB2.out.below (hal.out _)⟩ hcb);have HS7:=hid ((hS.out.below (hal.out (.cells #[.slice (some ⟨bR,0,none⟩) b.length cR] 167))).grown hg7 (kC HE1.out (hal.out _)) (qL hE.out.2.1 HE1.out (hal.out _)) (by decide));have HW7:Hid (Below w.heap.size w w7):=hid (Below.grown (hW.out.alloc hww _) hg7 (by simp;omega) (fun k hk=>(HE1.out.lt k hk).1))
   have HNE:Hid (∀r∈B++[((bR,cR,b):jI)],(Value.slice A5 j c5).ownBlock≠some r.1):=hid (fun r hr=>by
    rcases List.mem_append.1 hr with hr | hr
    ·obtain⟨_,_,_,h⟩:=hBo.out r hr;exact h
    ·obtain rfl:=List.mem_singleton.1 hr
     intro e;have:=(hS.out.lt _ e).1;dsimp only at this
     omega)
   have HVals:Hid ((B++[((bR,cR,b):jI)]).map (·.2.2)=(List.range j).map (qh (jv R))++[b]):=hid (by rw[List.map_append,hBv.out];rfl);clear hown7 hgrow7 hg7 hall7 hE hS hBo hBv hW hal HE1;generalize B++[((bR,cR,b):jI)]=B7 at *;refine(Dr _).mono ?_;rintro e w8 ⟨ov,rfl,hov,hB8⟩;obtain⟨os,O1,on1,oc1,O2,on2,oc2,rfl⟩:=hov.shape;have HE8:=hid (HE7.out.below hB8);have HW8:=hid (HW7.out.trans (hB8.mono HW7.out.size));have hS8:=HS7.out.below hB8;obtain⟨esS,ho8,hl8,ha8,hr8⟩:=hS8;have ho8':=ho8;rw[List.length_replicate] at ho8';have Ho8:=hid ho8';have Ho8l:=hid ho8;have Hl8:=hid hl8;have Ha8:=hid ha8;have Hr8:=hid hr8;have Hov:=hid hov;have hal8:Hid (∀o:Obj,Below w8.heap.size w8 (w8.alloc o)):=hid (fun o=>(Below.refl _ _).alloc (Nat.le_refl _) _);have hw8:=HW8.out.size;clear HE7 HS7 HW7 hB8 ho8 ho8' hl8 ha8 hr8 hov
   go_wp2_with (at_builtin;(refine Kv _ (o:=⟨some 49,_,_,_,_,_⟩) rfl _ _ 167 rfl w.heap.size 122 j0 yg 3 56 Tryz.underlying167 hj0 hw0 hw1 hw2 rfl (by decide) _ _ _ rfl (Ho8.out.alloc _) ⟨w8.heap.size,0,none⟩ 1 1 [.bool os,.slice O1 on1 oc1,.slice O2 on2 oc2] rfl rfl (Yl _ _ _ _ _) (K8 _ _ _ _ _ _ _) (by unfold maxLen;omega) (by omega) (by simp;omega) (by decide) kr (qL Ha8.out Ho8.out (hal8.out _)) (Zc _ _ _ _ _ _ _) ZY ?_;intro v9 w9 hown9 hgrow9 hall9))
   have hg9:(w8.alloc (.cells #[.bool os,.slice O1 on1 oc1,.slice O2 on2 oc2] 122)).grownBy w9 (Value.slice A5 j c5).ownBlock:=hgrow9;have HS9:Hid (kH w9 w.heap.size v9 (List.replicate j 0++[1])):=hid (kH.snoc (e:=(os,.slice O1 on1 oc1,.slice O2 on2 oc2)) (kC Ho8l.out (hal8.out _)) Hl8.out (qL Ha8.out Ho8.out (hal8.out _)) (fun i e q h1 h2=>(Hr8.out i e q h1 h2).below (hal8.out _)) (Hov.out.below (hal8.out _)) (by rw[List.length_replicate];exact hown9) hall9 hg9);have HE9:Hid (qk w9 w.heap.size v7 B7):=hid ((HE8.out.below (hal8.out _)).grown hg9 (kC Ho8.out (hal8.out _)) (qL Ha8.out Ho8.out (hal8.out _)) HNE.out);have HW9:Hid (Below w.heap.size w w9):=hid (Below.grown (HW8.out.alloc hw8 _) hg9 (by simp;omega) (fun k hk=>(Ho8.out.lt k hk).1));clear hown9 hgrow9 hg9 hall9;go_ret2;exact⟨v7,B7,v9,rfl,HVals.out,HE9.out,HS9.out,HW9.out⟩
  | succ gh=>
   have hlt:j<n:=by omega
   have hlt':(j:Int)<(n:Int):=by omega
   have hmk:=Y2 wr j7 R.length hc2
   have HO:Hid (jo (wr.alloc (.cells (kE j7 R.length 0).toArray 122)) wr.heap.size (List.replicate R.length j7) ((qh (jv R) j).take 0)):=hid (by
    refine⟨?_,by simp,fun e he=> ?_,fun i e q h1 h2=>by simp at h2⟩
    ·have:=ja.make wr 122 (kE j7 R.length 0)
     rw[show kE j7 R.length 0=jz (List.replicate R.length j7) by simp[kE]] at this ⊢;exact this
    ·rw[List.eq_of_mem_replicate he];exact⟨jq _ _ _,jq _ _ _⟩)
   have HCl:Hid ((qh (jv R) j).length=R.length):=hid (by unfold qh;rw[List.length_map,yk]);have Hj:=hid hj;clear hj
   go_wp2_with fail
   clear hmk
   obtain⟨wb,rfl⟩:∃wb,wb=wr:=⟨_,rfl⟩
   go_loopg [20] R.length (fun gh2 ix wx=>∃(i:Nat) (es:List El),ix = .int .i64 i∧i+gh2=R.length∧Hid (jo wx wb.heap.size es ((qh (jv R) j).take i))∧Hid (es.length=R.length)∧Hid (Below wb.heap.size wb wx))
   case atStart=>exact⟨0,_,rfl,by omega,HO,hid (by simp),hid ((Below.refl _ _).alloc (Nat.le_refl _) _)⟩
   case round=>
    clear HO;obtain⟨i,es,rfl,hi,hO,hEl,hWx⟩:=hrel
    cases gk with
    | succ gh2=>
     have hil:i<R.length:=by omega
     have hil':(i:Int)<(R.length:Int):=by omega
     obtain⟨r,hr⟩:∃r,R[i]? =some r:=⟨R[i],List.getElem?_eq_getElem hil⟩
     have hMx:=HM.out.below (hW.out.trans (hWx.out.mono hww));have cc1:=hMx.cellRow hr;have hgl:=hMx.own.lt;obtain⟨⟨esr,hrq⟩,hrl,hrc1,hrc2⟩:=hMx.row _ (List.mem_of_getElem? hr);obtain⟨er,R1,rn1,rc1,R2,rn2,rc2,zz0,her,hrt,d0,d1,d2,zz1,zz2,zz3⟩:=hrq.at_ (j:=j) (by rw[hrl];exact hlt);clear zz0 zz1 zz2 zz3;obtain⟨er0,era,erb⟩:=er
     have her':era = .slice R1 rn1 rc1∧erb = .slice R2 rn2 rc2:=by simpa using her
     obtain⟨rfl,rfl⟩:=her';clear her;unfold kX at hrt;dsimp only at d0 hrt;have hrbl:=hrq.own.lt
     have hql:((qh (jv R) j).take i).length=i:=by rw[List.length_take,HCl.out];omega
     have hies:i<es.length:=by rw[hEl.out];exact hil
     obtain⟨x0,x1,x2,k0,k1,k2,f0,f1,f2⟩:=hO.out.raw hies;have hbl:=hO.out.own.lt
     have HV:Hid ((qh (jv R) j).take (i+1)=(qh (jv R) j).take i++[r.2.2[j]?.getD 0]):=hid (by
      rw[List.take_add_one];unfold qh jv
      rw[List.getElem?_map,List.getElem?_map,hr];rfl)
     have HO2:Hid (jo (((wr.setCell ⟨wb.heap.size,i*3,none⟩ (.bool er0)).setCell ⟨wb.heap.size,i*3+1,none⟩ (.slice R1 rn1 rc1)).setCell ⟨wb.heap.size,i*3+2,none⟩ (.slice R2 rn2 rc2)) wb.heap.size (es.set i (er0,.slice R1 rn1 rc1,.slice R2 rn2 rc2)) ((qh (jv R) j).take (i+1))):=hid (by
      have:=hO.out.push (e:=(er0,.slice R1 rn1 rc1,.slice R2 rn2 rc2)) (q:=r.2.2[j]?.getD 0) (by rw[hql];exact hies) hrt;rw[hql,←HV.out] at this
      exact this)
     have HW2:=hid (((hWx.out.setCell (p:=⟨wb.heap.size,i*3,none⟩) (Nat.le_refl _) (.bool er0)).setCell (p:=⟨wb.heap.size,i*3+1,none⟩) (Nat.le_refl _) (.slice R1 rn1 rc1)).setCell (p:=⟨wb.heap.size,i*3+2,none⟩) (Nat.le_refl _) (.slice R2 rn2 rc2));have HL2:Hid ((es.set i (er0,.slice R1 rn1 rc1,.slice R2 rn2 rc2)).length=R.length):=hid (by rw[List.length_set];exact hEl.out);generalize es.set i (er0,.slice R1 rn1 rc1,.slice R2 rn2 rc2)=es2 at *;have Hi:=hid hi;obtain⟨rb,rc,rl⟩:=r;unfold kK at cc1;dsimp only at cc1 hrl hrc1 hrc2 hrbl d0 d1 d2;clear hr hMx hrq hrt hO hEl hWx HV hi hql hies hrl
     go_wp2
     go_roundg gh2
     case rel=>exact⟨i+1,es2,by go_num,by have:=Hi.out;omega,HO2,HL2,HW2⟩
     case measure=>omega
    | zero=>
     have hin2:¬((i:Int)<(R.length:Int)):=by omega
     have HO':Hid (jo wr wb.heap.size es (qh (jv R) j)):=hid (by
      have:=hO.out
      rwa [show i=(qh (jv R) j).length by rw[HCl.out];omega,List.take_length] at this)
     have HW1:=hid (hW.out.trans (hWx.out.mono hww));have HE0:=hid (hE.out.below hWx.out);have HS0:=hid (hS.out.below hWx.out);have hE1:=HE0.out.1;rw[hBl] at hE1;have HE1:=hid hE1;have HBL:=hid hBl;have hww1:=HW1.out.size;have halr:Hid (∀o:Obj,Below wr.heap.size wr (wr.alloc o)):=hid (fun o=>(Below.refl _ _).alloc (Nat.le_refl _) _);have HBo:Hid (∀r∈B,w.heap.size≤r.1∧r.1<wb.heap.size∧(Value.slice A5 j c5).ownBlock≠some r.1):=hid (fun r hr=>by obtain⟨cs,h1,h2,h3⟩:=hBo.out r hr;exact⟨h2,h1.lt,h3⟩);have HSl:Hid (∀k,(Value.slice A5 j c5).ownBlock=some k→k<wb.heap.size):=hid (fun k hk=>(hS.out.lt k hk).2);have hwbl:wb.heap.size<wr.heap.size:=HO'.out.own.lt;clear hO hEl hi hE hS hWx hE1 hBl hBo hal
     go_wp2_with (at_builtin;(refine Kv _ (o:=⟨some 36,_,_,_,_,_⟩) rfl _ _ 163 rfl w.heap.size 167 i0 (.slice none 0 0) 1 24 Tryz.underlying163 hi0 hz0 hz1 hz2 rfl (by decide) _ _ _ rfl (HE1.out.alloc _) ⟨wr.heap.size,0,none⟩ 1 1 [.slice (some ⟨wb.heap.size,0,none⟩) R.length R.length] rfl rfl (cell_one_new _ _ _) (fun x hx=>by simp at hx;subst hx;rfl) (by unfold maxLen;omega) (by omega) (by simp;omega) (by decide) kr (qL HE0.out.2.1 HE1.out (halr.out _)) (Zd _ _ _) ZZ ?_;intro v7 w7 hown7 hgrow7 hall7))
     have hg7:(wr.alloc (.cells #[.slice (some ⟨wb.heap.size,0,none⟩) R.length R.length] 167)).grownBy w7 (Value.slice A4 j c4).ownBlock:=hgrow7;have HE7:Hid (qk w7 w.heap.size v7 (B++[(wb.heap.size,R.length,qh (jv R) j)])):=hid ((HE0.out.below (halr.out _)).snoc (r:=(wb.heap.size,R.length,qh (jv R) j)) hg7 (by rw[HBL.out];dsimp only;rw[HCl.out];exact hown7) hall7 ⟨es,HO'.out.below (halr.out _)⟩ (by dsimp only;rw[HCl.out];exact Nat.le_refl _));have HS7:=hid ((HS0.out.below (halr.out (.cells #[.slice (some ⟨wb.heap.size,0,none⟩) R.length R.length] 167))).grown hg7 (kC HE1.out (halr.out _)) (qL HE0.out.2.1 HE1.out (halr.out _)) (by decide));have HW7:Hid (Below w.heap.size w w7):=hid (Below.grown (HW1.out.alloc hww1 _) hg7 (by simp;omega) (fun k hk=>(HE1.out.lt k hk).1))
     have HBo7:Hid (∀r∈B++[((wb.heap.size,R.length,qh (jv R) j):jI)],w.heap.size≤r.1∧r.1≤wb.heap.size∧(Value.slice A5 j c5).ownBlock≠some r.1):=hid (fun r hr=>by
      rcases List.mem_append.1 hr with hr | hr
      ·have:=HBo.out r hr;exact⟨this.1,Nat.le_of_lt this.2.1,this.2.2⟩
      ·obtain rfl:=List.mem_singleton.1 hr
       exact⟨hww,Nat.le_refl _,fun e=>by have:=HSl.out _ e;dsimp only at this;omega⟩)
     have HBv7:Hid ((B++[((wb.heap.size,R.length,qh (jv R) j):jI)]).map (·.2.2)=(List.range (j+1)).map (qh (jv R))):=hid (by rw[List.map_append,hBv.out,List.range_succ,List.map_append];rfl);have HBl7:Hid ((B++[((wb.heap.size,R.length,qh (jv R) j):jI)]).length=j+1):=hid (by rw[List.length_append,HBL.out];rfl)
     have hw7b:wb.heap.size<w7.heap.size:=by have:=hg7.size;simp at this;omega
     obtain⟨A7,c7,hv7,_,_⟩:=j8 hown7;subst hv7;clear hown7 hgrow7 hg7 hall7 HE0 HS0 HW1 HE1 HO' HBo hBv hW;generalize B++[((wb.heap.size,R.length,qh (jv R) j):jI)]=B7 at *
     go_wp2_with fail
     refine(Dq _).mono ?_;rintro e w8 ⟨ov,rfl,hov,hB8⟩;obtain⟨os,O1,on1,oc1,O2,on2,oc2,rfl⟩:=hov.shape;have HE8:=hid (HE7.out.below hB8);have HW8:=hid (HW7.out.trans (hB8.mono HW7.out.size));have hw8b:wb.heap.size<w8.heap.size:=Nat.lt_of_lt_of_le hw7b hB8.size;have hS8:=HS7.out.below hB8;obtain⟨esS,ho8,hl8,ha8,hr8⟩:=hS8;have ho8':=ho8;rw[List.length_replicate] at ho8';have Ho8:=hid ho8';have Ho8l:=hid ho8;have Hl8:=hid hl8;have Ha8:=hid ha8;have Hr8:=hid hr8;have Hov:=hid hov;have hal8:Hid (∀o:Obj,Below w8.heap.size w8 (w8.alloc o)):=hid (fun o=>(Below.refl _ _).alloc (Nat.le_refl _) _);have hw8:=HW8.out.size;clear HE7 HS7 HW7 hB8 ho8 ho8' hl8 ha8 hr8 hov
     go_wp2_with (at_builtin;(refine FF _ (o:=⟨some 40,_,_,_,_,_⟩) rfl _ _ 167 rfl w.heap.size 122 j0 yg 3 56 Tryz.underlying167 hj0 hw0 hw1 hw2 rfl (by decide) _ _ _ rfl (Ho8.out.alloc _) ⟨w8.heap.size,0,none⟩ 1 1 [.bool os,.slice O1 on1 oc1,.slice O2 on2 oc2] rfl rfl (Yl _ _ _ _ _) (K8 _ _ _ _ _ _ _) (by unfold maxLen;omega) (by omega) (by simp;omega) (by decide) kr (qL Ha8.out Ho8.out (hal8.out _)) (Zc _ _ _ _ _ _ _) ZY ?_;intro v9 w9 hown9 hgrow9 hall9 hat9))
     have hg9:(w8.alloc (.cells #[.bool os,.slice O1 on1 oc1,.slice O2 on2 oc2] 122)).grownBy w9 (Value.slice A5 j c5).ownBlock:=hgrow9;have hat9':v9.ownBlock=(Value.slice A5 j c5).ownBlock∨v9.ownBlock=some (w8.heap.size+1):=hat9.imp id (fun h=>h.trans (congrArg some (Array.size_push _)))
     have HS9:Hid (kH w9 w.heap.size v9 (List.replicate (j+1) 0)):=hid (by
      rw[List.replicate_succ']
      exact kH.snoc (e:=(os,.slice O1 on1 oc1,.slice O2 on2 oc2)) (kC Ho8l.out (hal8.out _)) Hl8.out (qL Ha8.out Ho8.out (hal8.out _)) (fun i e q h1 h2=>(Hr8.out i e q h1 h2).below (hal8.out _)) (Hov.out.below (hal8.out _)) (by rw[List.length_replicate];exact hown9) hall9 hg9)
     have HE9:Hid (qk w9 w.heap.size (Value.slice A7 (j+1) c7) B7):=hid ((HE8.out.below (hal8.out _)).grown hg9 (kC Ho8.out (hal8.out _)) (qL Ha8.out Ho8.out (hal8.out _)) (fun r hr=>(HBo7.out r hr).2.2));have HW9:Hid (Below w.heap.size w w9):=hid (Below.grown (HW8.out.alloc hw8 _) hg9 (by simp;omega) (fun k hk=>(Ho8.out.lt k hk).1))
     have HBo9:Hid (∀r∈B7,∃cs,ja w9 r.1 122 cs∧w.heap.size≤r.1∧v9.ownBlock≠some r.1):=hid (fun r hr=>by
      obtain⟨es',he⟩:=(HE9.out.2.2 r hr).1;refine⟨_,he.own,(HBo7.out r hr).1,fun e=> ?_⟩;have h7:=HBo7.out r hr;rcases hat9' with h | h
      ·exact h7.2.2 (h ▸ e)
      ·rw[h] at e
       have:w8.heap.size+1=r.1:=Option.some.inj e
       omega)
     clear hown9 hgrow9 hg9 hall9 hat9 hat9' HE8 HW8 Ho8 Ho8l Hl8 Ha8 Hr8 Hov
     go_wp2
     go_roundg gh
     case rel=>exact⟨j+1,B7,by go_num,by have:=Hj.out;omega,HBl7.out,HBv7,HBo9,HE9,HS9,HW9⟩
     case measure=>omega
attribute [local go_sem ↓] Go.wp_at_zero Go.wp_at_succ
theorem qk.at_ {w:World} {base n c:Nat} {A:Option Addr} {B:List jI} (h:qk w base (.slice A n c) B) {j:Nat} {r:jI} (hr:B[j]? =some r):
  ∃g,A=some ⟨g,0,none⟩∧base≤g∧g<w.heap.size∧w.cell? ⟨g,j,none⟩=some (.slice (some ⟨r.1,0,none⟩) r.2.2.length r.2.1):=by
 obtain⟨hj,hrj⟩:=List.getElem?_eq_some_iff.1 hr
 rcases h.1.2 with ⟨hA,hn⟩ | ⟨g,cap,cur,hA,hb,hg,_,_,_,htake⟩
 ·omega
 ·injection hA with hA1 hA2 hA3
  subst hA1;refine⟨g,rfl,hb,(Array.getElem?_eq_some_iff.1 hg).1,?_⟩;rw[cell_of_row w g j cur _ (0,0) hg]
  have hu:(B.map fun r=>Value.slice (some ⟨r.1,0,none⟩) r.2.2.length r.2.1)[j]? =some (.slice (some ⟨r.1,0,none⟩) r.2.2.length r.2.1):=by rw[List.getElem?_map,hr];rfl
  rw[←htake,List.getElem?_take] at hu;split at hu
  ·simpa using hu
  ·cases hu
theorem qk.form {w:World} {base:Nat} {v:Value} {B:List jI} (h:qk w base v B):∃A c,v = .slice A B.length c∧B.length≤c∧c≤maxLen:=j8 h.1
def yK (n:Nat) (V:List (List Rat)) (b:List Rat):List (List Rat):=(List.range n).map (qh V)++[b]
def Qg (n:Nat):List Rat:=List.replicate n 0++[1]
def Kl (n:Nat) (V:List (List Rat)) (b y:List Rat) (j:Nat):Rat:=xI ((yK n V b)[j]?.getD []) y V.length-(Qg n)[j]?.getD 0
def Kz (n:Nat) (V:List (List Rat)) (b y:List Rat):Prop:=∀j,j<n+1→Kl n V b y j=0
def Ue (n:Nat) (V:List (List Rat)) (b y:List Rat):Prop:=∀j,j<n+1→Yb ((yK n V b)[j]?.getD []) y∧xM (xI ((yK n V b)[j]?.getD []) y V.length) ((Qg n)[j]?.getD 0)
def BS (M:List (List jB)) (b y:List jB) (w:World) (e:Ending) (w':World):Prop:=
 Below w.heap.size w w'∧((qq M b=0∧qX y M.length=0∧((Kz (jM M) (M.map ju) (ju b) (ju y)∧e = .returned (.int .i64 0))∨(¬Kz (jM M) (M.map ju) (ju b) (ju y)∧e = .returned (.int .i64 19)))) ∨
  (qq M b=0∧qX y M.length≠0∧e = .returned (.int .i64 (qX y M.length)))∨(qq M b≠0∧e = .returned (.int .i64 (qq M b))))
theorem BM {n:Nat} {V:List (List Rat)} {b:List Rat} (hb:b.length=V.length):∀L∈yK n V b,L.length=V.length:=by
 intro L hL;rcases List.mem_append.1 hL with h | h
 ·obtain⟨j,_,rfl⟩:=List.mem_map.1 h
  simp[qh]
 ·rw[List.mem_singleton.1 h];exact hb
theorem Mx (v u t:Value) (M:List (List jB)) (b y:List jB) (w:World) (hv:ku w v M) (hu:jE w u (jR b)) (ht:jE w t (jR y)) (hT:∀r∈M,∀l∈r,xB l) (hTb:∀l∈b,xB l) (hTy:∀l∈y,xB l) (hG:jH w)
  (hok:qq M b=0→qX y M.length=0→Ue (jM M) (M.map ju) (ju b) (ju y)):
  Calls Tryz.prog 78 #[v,u,t] w (BS M b y w):=by
 have RE:=hid (WS v u M b w hv hu hT hTb hG);have RS:=hid (fun (hl:M.length≤1000000) W (hw:Below w.heap.size w W)=>WV t y M.length W (ht.below hw) hl hTy (hG.below hw));have HOK:=hid hok;obtain⟨A,c,rfl,_,_⟩:=hv.form;obtain⟨A2,c2,rfl,_,_⟩:=hu.form;obtain⟨A3,c3,rfl,_,_⟩:=ht.form;simp only[xr] at RE RS ⊢;clear hv hu ht hT hTb hTy hG hok;go_enter Tryz.func78,Tryz.ntmps78
 go_wp2_with fail
 refine RE.out.mono ?_;clear RE;rintro e w1 ⟨hB1,⟨hE,hM,hbl,g,R,gb,eb,rfl,hg,hnew,hmx,hvals,hgb,hO⟩ | ⟨hE,v1,rfl⟩⟩
 ·obtain⟨hm1,hn1⟩:=K0 hM
  have hRl:R.length=M.length:=by rw[←yk R,hvals];simp
  have HB1:=hid hB1;have HE:=hid hE;have HM:=hid hM;have HMX:=hid hmx;have HO:=hid hO;have Hvals:=hid hvals
  have hrb:(ju b).length=M.length:=by simp[ju];exact hbl
  clear hB1 hE hM hmx hO hvals hnew
  go_wp2_with fail
  refine(RS.out (by omega) _ HB1.out).mono ?_;clear RS;rintro e w2 ⟨hB2,⟨hS,hyl,gy,ey,rfl,hgy,hOy⟩ | ⟨hS,rfl⟩⟩
  ·have HROK:=hid (HOK.out HE.out hS)
   have HS:=hid hS;have hal2:=HB1.out.trans (hB2.mono HB1.out.size);have HB2:=hid hal2;have HY:=hid hOy
   have hry:(ju y).length=M.length:=by simp[ju];exact hyl
   have CD:=hid (RY g M.length (jM M) gb M.length R eb (ju b) w2 (HMX.out.below hB2) (by omega) (by omega) (fun h=>by
    have:M=[]:=List.length_eq_zero_iff.1 (by rw[←hRl,h];rfl)
    rw[this];rfl) (HO.out.below hB2) (by omega) (by omega))
   rw[hRl,Hvals.out] at CD;clear hS hB2 hal2 hOy HOK HMX HO Hvals hRl
   go_wp2_with fail
   refine CD.out.mono ?_;clear CD;rintro e w3 ⟨ev,B,sv,rfl,hBv,hEq,hSd,hB3⟩;obtain⟨A4,c4,rfl,hc4,hc4'⟩:=hEq.form;obtain⟨A5,c5,hsv,hc5,hc5'⟩:=hSd.form
   have hBl:B.length=jM M+1:=by
    have:=congrArg List.length hBv;simpa using this
   have hS5:(List.replicate (jM M) (0:Rat)++[1]).length=jM M+1:=by simp
   rw[hS5] at hsv hc5;subst hsv;rw[hBl];rw[hBl] at hEq;have HBl:=hid hBl;have HB3:=hid (HB2.out.trans (hB3.mono HB2.out.size));have HEq:=hid hEq;have HSd:=hid hSd;have HBv:=hid hBv;have HY3:=hid (HY.out.below hB3);have hgyl:gy<w3.heap.size:=HY3.out.own.lt
   have hrow:∀r∈B,r.2.2.length=M.length:=by
    intro r hr
    have h1:r.2.2∈yK (jM M) (M.map ju) (ju b):=by unfold yK;rw[←hBv];exact List.mem_map.2 ⟨r,hr,rfl⟩
    have:=BM (n:=jM M) (V:=M.map ju) (b:=ju b) (by simpa using hrb) _ h1;simpa using this
   have HRow:=hid hrow;generalize hwd:jM M=n at *;have HWD:=hid hwd;clear hB3 hEq hSd hBv HB2 HY hS5 hrow hBl hwd
   go_wp2
   go_loopg [6,43] (n+1) (fun gh rr ix wr=>∃i:Nat,rr = .int .i64 0∧ix = .int .i64 i∧i+gh=n+1∧Hid (∀j,j<i→Kl n (M.map ju) (ju b) (ju y) j=0)∧Hid (Below w3.heap.size w3 wr))
   case atStart=>exact⟨0,rfl,rfl,by omega,hid (by omega),hid (Below.refl _ _)⟩
   case round=>
    obtain⟨i,rfl,rfl,hi,hZ,hW⟩:=hrel
    cases gk with
    | zero=>
     have hin:¬((i:Int)<((n+1:Nat):Int)):=by omega
     have HZ:Hid (Kz n (M.map ju) (ju b) (ju y)):=hid (fun j hj=>hZ.out j (by omega));have HWe:=hid (HB3.out.trans (hW.out.mono HB3.out.size));clear hZ hW
     go_wp2
     go_ret;exact⟨HWe.out,.inl ⟨HE.out,HS.out,.inl ⟨by rw[HWD.out];exact HZ.out,rfl⟩⟩⟩
    | succ gh=>
     have hlt:i<n+1:=by omega
     have hlt':(i:Int)<((n+1:Nat):Int):=by omega
     obtain⟨r,hr⟩:∃r,B[i]? =some r:=⟨B[i]'(by rw[HBl.out];exact hlt),List.getElem?_eq_getElem (by rw[HBl.out];exact hlt)⟩
     obtain⟨g4,rfl,_,hg4,hcr⟩:=HEq.out.at_ hr
     have hi5:i<(List.replicate n (0:Rat)++[1]).length:=by simp;omega
     obtain⟨g5,s5,Z1,zn1,zc1,Z2,zn2,zc2,rfl,_,hg5,hrs,p0,p1,p2⟩:=HSd.out.at_ hi5;have hrm:r∈B:=List.mem_of_getElem? hr;have hrl:r.2.2.length=M.length:=HRow.out r hrm
     have hrE:(yK n (M.map ju) (ju b))[i]?.getD []=r.2.2:=by
      have:(yK n (M.map ju) (ju b))[i]? =some r.2.2:=by unfold yK;rw[←HBv.out,List.getElem?_map,hr];rfl
      rw[this];rfl
     obtain⟨hpo,hfp⟩:=HROK.out i hlt
     have hDv:Kl n (M.map ju) (ju b) (ju y) i=xI r.2.2 (ju y) M.length-(Qg n)[i]?.getD 0:=by unfold Kl;rw[hrE];simp
     rw[hrE] at hpo hfp;simp only[List.length_map] at hfp;change Rt _ _ ((Qg n)[i]?.getD 0) at hrs
     obtain⟨⟨er,hOr⟩,hcap⟩:=(HEq.out.2.2 r hrm)
     have c0:=(hW.out.cell (p:=⟨g4,i,none⟩) hg4).trans hcr;have q0:=(hW.out.cell (p:=⟨g5,i*3,none⟩) hg5).trans p0;have q1:=(hW.out.cell (p:=⟨g5,i*3+1,none⟩) hg5).trans p1;have q2:=(hW.out.cell (p:=⟨g5,i*3+2,none⟩) hg5).trans p2;have hg5r:g5<wr.heap.size:=Nat.lt_of_lt_of_le hg5 hW.out.size;have PD:=hid (fun (W:World) (hb:Below wr.heap.size wr W)=>Ao W r.1 gy M.length r.2.1 M.length er ey r.2.2 (ju y) ((hOr.below hW.out).below hb) ((HY3.out.below hW.out).below hb) hrl.symm (by omega) (by omega) hpo);have MI:=hid (fun (W:World) (z:Value) (hb:Below wr.heap.size wr W) (hz:Rt W z (xI r.2.2 (ju y) M.length))=>WL z (.agg #[.bool s5,.slice Z1 zn1 zc1,.slice Z2 zn2 zc2]) _ _ W hz ((hrs.below hW.out).below hb) hfp)
     have KS:Hid (∀z,Below wr.heap.size wr z→z.cell? ⟨g5,i*3,none⟩=some (.bool s5)∧z.cell? ⟨g5,i*3+1,none⟩=some (.slice Z1 zn1 zc1)∧z.cell? ⟨g5,i*3+2,none⟩=some (.slice Z2 zn2 zc2)∧Below wr.heap.size wr z):=hid (fun z hb=>
      ⟨(hb.cell (p:=⟨g5,i*3,none⟩) hg5r).trans q0,(hb.cell (p:=⟨g5,i*3+1,none⟩) hg5r).trans q1,(hb.cell (p:=⟨g5,i*3+2,none⟩) hg5r).trans q2,hb⟩)
     have KT:=hid (fun (x x':World) (hb:Below x.heap.size x x') (h5:Below wr.heap.size wr x)=>KS.out x' (h5.trans (hb.mono h5.size)));rw[←hDv] at MI;have HWr:=hid (hW.out.trans (Below.refl _ _));clear p0 p1 p2 hrs hOr hpo hfp hW hDv hrE hi5 hcr hg4 hg5;generalize hdd:Kl n (M.map ju) (ju b) (ju y) i=dd at *;have HDD:=hid hdd;clear hdd
     go_wp2
     go_region_held3 (fun z=>z.cell? ⟨g5,i*3,none⟩=some (.bool s5)∧z.cell? ⟨g5,i*3+1,none⟩=some (.slice Z1 zn1 zc1)∧z.cell? ⟨g5,i*3+2,none⟩=some (.slice Z2 zn2 zc2)∧Below wr.heap.size wr z)
      (first | exact KS.out _ (Below.refl _ _).drew | exact KT.out _ _ (by assumption) (by assumption))
      (first
       | (go_at_call 158;go_split_ands;refine(PD.out _ (by assumption)).mono ?_;rintro e4 w4 ⟨pv,rfl,hpv,hB4⟩)
       | (go_at_call 109;go_split_ands;refine(MI.out _ pv (by assumption) hpv).mono ?_;rintro e5 w5 ⟨mv,rfl,hmv,hB5⟩)
       | (go_at_call 114;go_split_ands;refine(Gw mv dd _ hmv).mono ?_;rintro e6 w6 ⟨rfl,hB6⟩))
     have hB6':Below wr.heap.size wr w6:=by go_split_ands;assumption
     have HB6:=hid (HWr.out.trans (hB6'.mono HWr.out.size));clear hpv hB4 hmv hB5 hB6 hB6' PD MI KS KT c0 q0 q1 q2 hcap;by_cases h0:dd=0
     ·have hsg:j5 dd=0:=by rw[h0];rfl
      have HZ2:Hid (∀j,j<i+1→Kl n (M.map ju) (ju b) (ju y) j=0):=hid (fun j hj=>by
       rcases Nat.lt_or_ge j i with h | h
       ·exact hZ.out j h
       ·have:j=i:=by omega
        subst this;rw[HDD.out];exact h0)
      rw[hsg];clear hZ h0 hsg HDD
      go_wp2
      go_roundg gh
      case rel=>exact⟨i+1,rfl,by go_num,by omega,HZ2,HB6⟩
      case measure=>omega
     ·have hsg:(j5 dd != 0)=true:=by
       have h1:dd.num≠0:=fun h=>h0 (Rat.num_eq_zero.1 h)
       unfold j5;rw[if_neg h1]
       split <;> rfl
      have HN:Hid (¬Kz n (M.map ju) (ju b) (ju y)):=hid (fun h=>h0 (by rw[←HDD.out];exact h i hlt));generalize j5 dd=sg at *;clear hZ h0 HDD;have HBf:=hid (HB3.out.trans (HB6.out.mono HB3.out.size))
      go_wp2
      go_ret;exact⟨HBf.out,.inl ⟨HE.out,HS.out,.inr ⟨by rw[HWD.out];exact HN.out,rfl⟩⟩⟩
  ·have HS:=hid hS
   have HB2:=hid (HB1.out.trans (hB2.mono HB1.out.size))
   have hne:(qX y M.length != 0)=true:=by simpa using hS
   clear hS hB2 HOK HMX HO Hvals;generalize hec:qX y M.length=ec at *;have HEC:=hid hec;clear hec
   go_wp2
   go_ret;exact⟨HB2.out,.inr (.inl ⟨HE.out,by rw[HEC.out];exact HS.out,by rw[HEC.out];rfl⟩)⟩
 ·have HX:=hid hE
  have hne:(qq M b != 0)=true:=by simpa using hE
  clear HOK hE RS;generalize hec:qq M b=ec at *;have HEC:=hid hec;clear hec
  go_wp2
  go_ret;exact⟨hB1,.inr (.inr ⟨by rw[HEC.out];exact HX.out,by rw[HEC.out];rfl⟩)⟩
end Go.Proofs.YtneafcdfnhnpnaaGreatDoor
namespace Go.Proofs.YtneafcdfnhnpnaaGreatDoor
open Go.RowKit
def qr (x:Nat):Nat→Nat
 | 0=>x
 | k+1=>qr x k/(k+1)
def kg (x n:Nat):Nat→List Int
 | 0=>List.replicate n 0
 | k+1=>(kg x n k).set (n-1-k) ((qr x k%(k+1):Nat):Int)
theorem y8 (x n k:Nat):(kg x n k).length=n:=by
 induction k with
 | zero=>simp[kg]
 | succ k ih=>simp[kg,ih]
theorem Td (x k:Nat):qr x k≤x:=by
 induction k with
 | zero=>exact Nat.le_refl _
 | succ k ih=>exact Nat.le_trans (Nat.div_le_self _ _) ih
theorem Nt.putI {w:World} {v:Value} {x g i:Nat} {t:TypeId} {L:List Int} (h:Nt w v x) (hO:ja w g t (jc L)) (u:Value):Nt (w.setCell ⟨g,i,none⟩ u) v x:=by
 obtain⟨ws,h1,h2,h3,A,n,c,hv,h4,h5,h6,h7⟩:=h;refine⟨ws,h1,h2,h3,A,n,c,hv,h4,h5,h6,fun hn=> ?_⟩;obtain⟨b,off,hA,hb,hcell⟩:=h7 hn;refine⟨b,off,hA,by simpa using hb,fun j u hu=> ?_⟩;have hj:=hcell j u hu
 have hne:b≠g:=by
  rintro rfl;rw[hO.cell] at hj;obtain⟨z,_,hz⟩:=List.mem_map.1 (List.mem_of_getElem? hj);obtain⟨y,_,hy⟩:=List.mem_map.1 (List.mem_of_getElem? hu);rw[←hz] at hy;cases hy
 rw[World.cell?_setCell_other _ _ _ _ (by intro e;injection e with e1;exact hne e1.symm)];exact hj
def Tc (x n:Nat) (w:World) (e:Ending) (w':World):Prop:=
 ∃u v,e = .returned (.tuple #[u,v])∧Sl w' 1 u (jc (kg x n n))∧Nt w' v (qr x n)∧Below w.heap.size w w'
theorem Te (v:Value) (x n:Nat) (w:World) (h:Nt w v x) (hf:jl x) (hn:n≤256):
  Calls Tryz.prog 140 #[v,.int .i64 n] w (Tc x n w):=by
 have hmk:=fun W=>Jx W n (by omega)
 have HF:=Lib.hid (fun k=>jl.le hf (Td x k));have h0:Nt (w.alloc (.cells (jc (List.replicate n 0)).toArray 3)) v (qr x 0):=h.below ((Below.refl _ _).alloc (Nat.le_refl _) _);have hO0:=ja.make w 3 (jc (List.replicate n 0));have hB0:=(Below.refl w.heap.size w).alloc (Nat.le_refl _) (.cells (jc (List.replicate n 0)).toArray 3);have H0:=Lib.hid h0;clear h hf h0;go_enter Tryz.func140,Tryz.ntmps140
 go_wp2_with fail
 go_loopg [0,6,7] n (fun g u i _ wr=>∃(k:Nat),k+g=n∧i = .int .i64 ((n:Int)-1-k)∧Hid (Nt wr u (qr x k))∧ja wr w.heap.size 3 (jc (kg x n k))∧Below w.heap.size w wr)
 case atStart=>exact⟨0,by omega,by go_num,H0,hO0,hB0⟩
 case round=>
  clear hO0 hB0 H0;obtain⟨k,hk,rfl,hN,hO,hB⟩:=hrel
  cases gk with
  | zero=>
   have hkn:k=n:=by omega
   have hsl:=Lib.hid (hO.sl n (by rw[jQ,y8]) (by omega));rw[hkn] at hsl hN
   have hi:((n:Int)-1-(n:Int)) = -1:=by omega
   clear hk hO;subst hkn
   go_wp2
   go_ret2;exact⟨_,_,rfl,hsl.out,hN.out,hB⟩
  | succ g=>
   obtain⟨i,hi⟩:∃i:Nat,n=i+1+k:=⟨n-1-k,by omega⟩
   have hi2:((n:Int)-1-(k:Int))=i:=by omega
   rw[hi2]
   have hin:n-1-k=i:=by omega
   have hD:=Lib.hid (show kg x n (k+1)=(kg x n k).set (n-1-k) ((qr x k%(k+1):Nat):Int) from rfl);rw[hin] at hD
   have hsub:(n:Int)-i=(k:Int)+1:=by omega
   have hck:=(hO.cell i).trans (kh (kg x n k) i (by rw[y8];omega));have hfr:=hO.free i;have hmod:qr x k%(k+1)<256:=Nat.lt_of_lt_of_le (Nat.mod_lt _ (by omega)) (by omega)
   have hm2:qr x k%(k+1)<18446744073709551616:=by omega
   have hil:i<n:=by omega
   have hlo:i<256:=by omega
   have hk2:k<256:=by omega
   have hck':wr.cell? ⟨w.heap.size,i,none⟩=some (.int .i64 ((kg x n k)[i]?.getD 0)):=hck;have DW:=KJ u0 _ (k+1) wr hN.out (by omega) (by unfold WB;omega) (HF.out k);rw[Int.natCast_succ] at DW;have DW:=Lib.hid DW;have Hk:Hid (k+(g+1)=n):=Lib.hid hk;generalize hz:(kg x n k)[i]?.getD 0=z at *;clear hi hi2 hin hk hck' hz;generalize hm:qr x k%(k+1)=d at *;clear hm
   go_wp2_with fail
   refine DW.out.mono ?_;rintro e w2 ⟨u,rfl,hNu,hB2⟩;have hO2:=hO.below hB2 hO.lt;have hc2:=(hB2.cell (p:=⟨w.heap.size,i,none⟩) hO.lt).trans hck;have hf2:=(hB2.frozen (p:=⟨w.heap.size,i,none⟩) hO.lt).trans hfr;have hB':=hB.trans (hB2.mono hB.size);have HN2:Hid (Nt w2 u (qr x (k+1))):=Lib.hid hNu;clear hO hB hB2 hck hfr hN hNu
   go_wp2
   go_roundg g
   case rel=>exact⟨k+1,by have:=Hk.out;omega,by congr 1;omega,Lib.hid (HN2.out.putI hO2 _),by rw[hD.out,←xF];exact hO2.put _ _,hB'.setCell (by simp) _⟩
   case measure=>omega
