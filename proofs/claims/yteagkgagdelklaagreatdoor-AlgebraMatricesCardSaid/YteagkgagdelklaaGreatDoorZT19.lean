/- Contracts: cyclesOf, Sign. -/
import Derived.Test.YteagkgagdelklaaGreatDoorZT18
set_option maxRecDepth 100000
set_option maxHeartbeats 4000000
namespace Go.Proofs.YteagkgagdelklaaGreatDoor
open Go.RowKit Go.Lib Go.Shelf
attribute [local go_sem] Oper.semAt_some
theorem Y8 (A:Option Addr) (n c:Nat) (w:World):Calls Tryz.prog 56 #[.slice A n c] w fun e w'=>e = .returned (.func (.func 101) #[] #[.pointer (some ⟨w.heap.size,0,none⟩)])∧w'=w.alloc (.cells #[.slice A n c] 41):=by
 go_enter Tryz.func56,Tryz.ntmps56
 go_wp2
 go_ret;exact⟨rfl,rfl⟩
def yO (cs:List (List Int)):Int:=cs.foldl (fun s c=>if c.length%2=0 then -s else s) 1
theorem OK (cs:List (List Int)) (c:List Int):yO (cs++[c])=if c.length%2=0 then -(yO cs) else yO cs:=by simp[yO]
theorem OJ (cs:List (List Int)):yO cs=1∨yO cs = -1:=by
 have h:∀(cs:List (List Int)) (s:Int),(s=1∨s = -1)→(cs.foldl (fun s c=>if c.length%2=0 then -s else s) s=1∨cs.foldl (fun s c=>if c.length%2=0 then -s else s) s = -1):=by
  intro cs
  induction cs with
  | nil=>intro s hs;exact hs
  | cons c cs ih=>intro s hs;rw[List.foldl_cons];refine ih _ ?_;split <;> omega
 exact h cs 1 (.inl rfl)
theorem yB.ofSl {w:World} {p:List Int} {A:Option Addr} {c Bp:Nat} (h:Sl w 1 (.slice A p.length c) (je p)) (hB:Bp<w.heap.size):∃b0 off,yB p A b0 off w∧(b0=Bp∨p≠[]):=by
 by_cases hp:p=[]
 ·exact⟨Bp,0,⟨hB,fun j u hu=>by subst hp;simp[je] at hu⟩,.inl rfl⟩
 ·obtain⟨b,off,hA,hb,hc⟩:=h.at_ (k:=0) (by rw[ku];exact List.length_pos_iff.2 hp)
  refine⟨b,off,⟨hb,fun j u hu=>⟨hA,?_⟩⟩,.inr hp⟩;obtain⟨hj,_⟩:=List.getElem?_eq_some_iff.1 hu;exact(hc j hj).trans hu
theorem VJ {p:List Int} {pre post:List (List Int)} {x:List Int} (h:qY p=pre++x::post):p≠[]:=by
 rintro rfl;have:qY []=[]:=rfl;rw[this] at h;simp at h
theorem ja.putObjQ {w:World} {g l:Nat} {t:TypeId} {cs:List Value} (h:ja w g t cs) (hl:g≠l) (o:Obj):ja (w.putObj l o) g t cs:=(World.putObj_heap_other hl).trans h
theorem Below.putObjQ {B l:Nat} {a w:World} (h:Below B a w) (hl:B≤l) (o:Obj):Below B a (w.putObj l o):=
 ⟨h.os,h.tape,h.output,by have:=h.size;simpa [World.putObj] using this,fun k hk=>(World.putObj_heap_other (by omega)).trans (h.block k hk)⟩
theorem yi.putObjQ (Bp b0 sb l:Nat) (w:World) (o:Obj) (h1:sb≠l) (h2:Bp≠l) (h3:b0≠l):yi Bp b0 sb w (w.putObj l o):=
 ⟨by simp[World.putObj],World.putObj_heap_other h1,World.putObj_heap_other h2,World.putObj_heap_other h3⟩
theorem JT.putObjQ {sb l:Nat} {x:List Int} {v:Value} {w:World} (h:JT sb x v w) (hl:l<sb) (o:Obj):JT sb x v (w.putObj l o):=by
 obtain⟨base,h1,h2,h3,h4⟩:=h;exact⟨base,h1,by simpa [World.putObj] using h2,xt h3 (fun k _ e=>World.putObj_heap_other (by have:=(h3.lt k e).1;omega)),h4⟩
def OM (p:List Int) (w:World) (e:Ending) (w':World):Prop:=
 e = .returned (.tuple #[.int .i64 (if ki p=0 then yO (qY p) else 0),.int .i64 (ki p)])∧Below w.heap.size w w'
theorem Sc (v:Value) (p:List Int) (w:World) (hv:Sl w 1 v (je p)):Calls Tryz.prog 20 #[v] w (OM p w):=by
 obtain⟨A,c,rfl,hc1,hc2⟩:=hv.form;simp only[ku] at hc1 hv ⊢;have CP:=hid (fun W h=>Q9 (.slice A p.length c) p W h);by_cases he:ki p=0
 ·have hPp:y4 p∧p.length≤256:=by unfold ki at he;split at he;omega;split at he;exact⟨by assumption,by omega⟩;omega
  have HV:=hid hv;have He:=hid he;obtain⟨hP,hl⟩:=hPp;have HP:=hid hP;clear hv he hP;refine(callsIn_wide (n:=4)).1 ?_;refine callsIn_of_wp_marks Tryz.func20 rfl trivial ?_ rfl;simp only[Tryz.ntmps20,List.size_toArray,QaR,QbA,Nat.reduceAdd,Nat.reduceSub,Array.replicate_succ,Array.replicate_zero,List.push_toArray,Qcq,Qbe,QbZ]
  gi_wp2_with (first | (refine⟨trivial,?_⟩;gi_at_call 54;refine(callsIn_wide.2 (CP.out _ HV.out)).mono ?_;rintro e w1 ⟨rfl,hB1⟩;rw[He.out]) | (refine⟨trivial,?_⟩;gi_at_call 56;refine(callsIn_wide.2 (Y8 _ _ _ _)).mono ?_;rintro e w2 ⟨rfl,rfl⟩))
  have hn1:=hB1.size;have hal:Below w1.heap.size w1 ((w1.alloc (.cells #[.int .i64 1] 3)).alloc (.cells #[.slice A p.length c] 41)):=((Below.refl _ w1).alloc (Nat.le_refl _) _).alloc (by simp) _;have hOs:=(ja.make w1 3 [.int .i64 1]).alloc (.cells #[.slice A p.length c] 41);have hOb:=ja.make (w1.alloc (.cells #[.int .i64 1] 3)) 41 [.slice A p.length c];simp only[World.size_alloc] at hOb;have hsl:=(HV.out.below hB1).below hal;have hBw:=hB1.trans (hal.mono hn1)
  have hsz:((w1.alloc (.cells #[.int .i64 1] 3)).alloc (.cells #[.slice A p.length c] 41)).heap.size=w1.heap.size+2:=by simp
  obtain⟨w3,hw3⟩:∃w3,w3=(w1.alloc (.cells #[.int .i64 1] 3)).alloc (.cells #[.slice A p.length c] 41):=⟨_,rfl⟩
  rw[←hw3] at hal hOs hOb hsl hsz hBw ⊢;clear hw3;obtain⟨b0,off,hRd,hb0⟩:=yB.ofSl (Bp:=w1.heap.size+1) hsl (by omega)
  have hb0w:b0=w1.heap.size+1∨(p≠[]∧b0<w1.heap.size):=by
   rcases hb0 with h | h
   ·exact .inl h
   ·refine .inr ⟨h,?_⟩
    obtain⟨b,o,hA,hb,_⟩:=(HV.out.below hB1).at_ (k:=0) (by rw[ku];exact List.length_pos_iff.2 h);have h1:=(hRd.2 0 _ (kz p 0 (List.length_pos_iff.2 h))).1;rw[hA] at h1;cases h1;exact hb
  refine Un (gf:=101) (lb:= #[.pointer (some ⟨w1.heap.size+1,0,none⟩)]) (xs:=qY p) (Pr:=JT) (Kp:=yi (w1.heap.size+1) b0) rfl (enters_of Tryz.func101 (by kernel_rfl) rfl)
   (fun W hW hs=>Y9 p A c (w1.heap.size+1) b0 off HP.out hl W ((hW.cell (p:=⟨w1.heap.size+1,0,none⟩) (by simp;omega)).trans (hOb.cell 0)) (by omega) (hRd.same hW.size (hW.block b0 (by rcases hb0w with h | h <;> omega)))) rfl
   (fun pre A=>ja A w1.heap.size 3 [.int .i64 (yO pre)]∧Below w.heap.size w A)
   (fun pre A A' h hb=>⟨h.1.but hb (by omega),h.2.trans (hb.toBelow (by omega) (Qap (by have:=h.2.size;omega) (Nat.le_refl _)))⟩)
   (fun pre A l o h hl _=>⟨h.1.putObjQ (by omega) o,Below.putObjQ h.2 (by omega) o⟩)
   (fun A B C h k=>h.trans k) (fun A o hlt=>yi.putObjQ _ _ _ _ A o (by omega) (by omega) (by rcases hb0w with h | h <;> omega))
   (fun x v A o hlt h=>h.putObjQ (by omega) o)
   (fun o1 o2=>⟨(hOs.alloc _).alloc _,(hBw.alloc (by omega) _).alloc (by simp;omega) _⟩)
   (fun v=> { tmps:= #[.slice A p.length c,undef,.int .i64 0,.int .i64 0,.int .i64 0,.pointer (some ⟨w1.heap.size,0,none⟩),v,.slice A p.length c,.int .i64 0,.int .i64 0,.bool false,undef,.slice A p.length c,.func (.func 101) #[] #[.pointer (some ⟨w1.heap.size+1,0,none⟩)],v,undef,undef,undef,undef,undef,undef,undef],defers:=[] })
   ?assign ?body ?done
  case assign=>
   intro l v W K hK
   gi_wp2
   exact hK
  case body=>
   rintro l pre x post v A' hx ⟨hO,hB⟩ hlt ⟨base,hb1,hb2,hrow,hne⟩;obtain⟨A2,c2,rfl,_,_⟩:=jX hrow;have hpe:=VJ hx
   have hb0':b0≠w1.heap.size:=by
    rcases hb0w with h | h
    ·omega
    ·omega
   have hcl:A'.cell? ⟨w1.heap.size,0,none⟩=some (.int .i64 (yO pre)):=hO.cell 0;have hfr:=hO.free 0;have hst:=OK pre x;have hpm:=OJ pre;have HO:=hid hO;have HB:=hid hB;clear hO hB hrow;generalize yO pre=s at *
   have hs1: -1≤s∧s≤1:=by omega
   clear hpm
   gi_wp2
   ·rename_i hev
    have hev':x.length%2=0:=by simp at hev;omega
    rw[if_pos hev'] at hst;refine⟨Below.heap_setCell _ _ _ _ (by simp;omega),Below.heap_setCell _ _ _ _ (by simp;omega),⟨by rw[hst];exact HO.out.put 0 _,HB.out.setCell (by simp;omega) _⟩,?_⟩;exact⟨by simp,Below.heap_setCell _ _ _ _ (by simp;omega),Below.heap_setCell _ _ _ _ (by simp),Below.heap_setCell _ _ _ _ hb0'⟩
   ·rename_i hev
    have hev':¬x.length%2=0:=by simp at hev;omega
    rw[if_neg hev'] at hst;exact⟨rfl,rfl,⟨by rw[hst];exact HO.out,HB.out⟩,Nat.le_refl _,rfl,rfl,rfl⟩
  case done=>
   rintro W ⟨hO,hB⟩ hD;have hcl:W.cell? ⟨w1.heap.size,0,none⟩=some (.int .i64 (yO (qY p))):=hO.cell 0;have HB:=hid hB;have HD:=hid hD;clear hB hD hO
   gi_wp2
   refine⟨by simp,.inl ⟨_,_,rfl,run_takeDeferred HD.out,?_⟩⟩;exact⟨_,results_tmp2 rfl _ _ _,by rw[if_pos He.out,He.out];rfl,Below.putObjQ HB.out (by omega) _⟩
 ·have hne:(ki p != 0)=true:=by simpa using he
  have He:=hid he;have HV:=hid hv;clear he hv;go_enter Tryz.func20,Tryz.ntmps20
  go_wp2_with fail
  refine(CP.out _ HV.out).mono ?_;rintro e w1 ⟨rfl,hB1⟩;have HB1:=hid hB1;clear hB1 CP;generalize hec:ki p=ec at *;have HEC:=hid hec;clear hec
  go_wp2
  go_ret2;exact⟨by rw[HEC.out,if_neg He.out];rfl,HB1.out⟩
end Go.Proofs.YteagkgagdelklaaGreatDoor
namespace Go.Proofs.YteagkgagdelklaaGreatDoor
open Go.RowKit Go.Lib
def zY (row col:Nat) (S:jw Rat):Prop:=
 (∀x∈jL (j8 row S) S.cols.length,kI x) ∧
 ∀(i:Nat) (r:js),(elDiv jc row col S)[i]? =some r→i≠S.cols.length→Xc col r.2.2 (jL (elDiv jc row col S) S.cols.length)
def qU (n:Nat):Nat→Nat→jw Rat→Prop
 | 0,_,_=>True
 | k+1,fr,S=>match kK jc S.rows S.cols.length (n-fr) fr with
  | none=>True
  | some (row,col)=>zY row col S∧qU n k (col+1) (kg jc row col S)
theorem qU.some {n k fr row col:Nat} {S:jw Rat} (h:qU n (k+1) fr S) (hp:kK jc S.rows S.cols.length (n-fr) fr=some (row,col)):zY row col S∧qU n k (col+1) (kg jc row col S):=by
 unfold qU at h;rw[hp] at h;exact h
theorem kv.trans {a b c:World} (h:kv a b) (k:kv b c):kv a c:=by
 refine⟨Qap h.1 k.1,fun i hi=> ?_⟩;rcases h.2 i hi with e1 | e1
 ·rcases k.2 i (Qac hi h.1) with e2 | e2
  ·exact .inl (e2.trans e1)
  ·exact .inr fun cur e fr hh c hc=>e2 cur e fr (e1.trans hh) c hc
 ·exact .inr e1
theorem Gx {w:World} {base:Nat} {e:TypeId} {size:Nat} {v:Value} {n:Nat} {xs:List Value} (h:w.ownsRow base e size v n xs):ko v:=by
 obtain⟨A,c,rfl,_⟩:=jX h;exact jr _ _ _
theorem Uc {w:World} {base px:Nat} {t e:TypeId} {size n:Nat} {v:Value} {cs xs:List Value} (hO:ja w px t cs) (h:w.ownsRow base e size v n xs) (hte:t≠e):v.ownBlock≠some px:=by
 intro hv
 rcases h.2 with ⟨rfl,_⟩ | ⟨g,cap,cur,rfl,_,hg,_⟩
 ·simp[Value.ownBlock] at hv
 ·simp[Value.ownBlock] at hv
  subst hv;unfold ja at hO;rw[hO] at hg
  injection hg with hg
  injection hg with _ hg
  exact hte hg
theorem QK {B B':Nat} {a:World} {e e':TypeId} {s s':Nat} {v v':Value} {n n':Nat} {xs xs':List Value} (h:a.ownsRow B e s v n xs) (h':a.ownsRow B' e' s' v' n' xs') (hee:e≠e') (k:Nat) (hk:v.ownBlock=some k):v'.ownBlock≠some k:=by
 intro hk'
 rcases h.2 with ⟨rfl,_⟩ | ⟨g,cap,cur,rfl,_,hg,_⟩
 ·simp[Value.ownBlock] at hk
 ·rcases h'.2 with ⟨rfl,_⟩ | ⟨g',cap',cur',rfl,_,hg',_⟩
  ·simp[Value.ownBlock] at hk'
  ·simp[Value.ownBlock] at hk hk'
   subst hk hk';rw[hg] at hg'
   injection hg' with hg'
   injection hg' with _ hg'
   exact hee hg'
theorem V0 (es:List El) (e:El):jA (es++[e])=jA es++J1 e:=by
 induction es with
 | nil=>rfl
 | cons a t ih=>simp only[QbZ,jA,ih]
structure zU (n g:Nat) (R:List js) (w wr:World) (S:jw Rat) (fr:Nat) (cv pv:Value):Prop where
 mx:j5 wr g S.rows n
 out:ja wr w.heap.size 74 [jn,jn,jn,.bool false]
 res:ja wr (w.heap.size+1) 74 [jn,cv,pv,.bool S.odd]
 cown:wr.ownsRow (w.heap.size+2) 3 1 cv S.cols.length (jm S.cols)
 cin:kw wr kx cv
 pown:kQ wr (w.heap.size+2) pv S.piv
 same:S.piv.length=S.cols.length
 len:S.rows.length=R.length
 perm:List.Perm (S.rows.map (·.1)) (R.map (·.1))
 hfr:fr≤n
 go:jy jc n (R.length-S.cols.length) fr S=jy jc n R.length 0 ⟨R,[],[],false⟩
 ok:qU n (R.length-S.cols.length) fr S
 buts:jO (g::R.map (·.1)) w wr
def XM (n g c:Nat) (R:List js) (w:World) (e:Ending) (w':World):Prop:=
 ∃S,S=jy jc n R.length 0 ⟨R,[],[],false⟩ ∧ ∃cv pv,e = .returned (.agg #[.slice (some ⟨g,0,none⟩) S.piv.length c,cv,pv,.bool S.odd]) ∧
  j5 w' g S.rows n∧w'.ownsRow w.heap.size 3 1 cv S.cols.length (jm S.cols)∧kQ w' w.heap.size pv S.piv ∧
  S.piv.length=S.cols.length∧S.piv.length≤S.rows.length∧S.rows.length=R.length∧List.Perm (S.rows.map (·.1)) (R.map (·.1))∧jO (g::R.map (·.1)) w w'
structure kH (n g:Nat) (R:List js) (w wr:World) (C:List Nat) (V:List Rat) (Q:List js) (odd:Bool) (cv pv:Value):Prop where
 mx:j5 wr g Q n
 out:ja wr w.heap.size 74 [jn,jn,jn,.bool false]
 res:ja wr (w.heap.size+1) 74 [jn,cv,pv,.bool odd]
 cown:wr.ownsRow (w.heap.size+2) 3 1 cv C.length (jm C)
 cin:kw wr kx cv
 pown:kQ wr (w.heap.size+2) pv V
 len:Q.length=R.length
 perm:List.Perm (Q.map (·.1)) (R.map (·.1))
 lt:∀k,k=g∨k∈R.map (·.1)→k<w.heap.size
 buts:jO (g::R.map (·.1)) w wr
section
variable {n g:Nat} {R Q:List js} {w w1 w2:World} {S:jw Rat} {C:List Nat} {V:List Rat} {fr i:Nat} {odd:Bool} {cv pv:Value}
theorem zL {R:List js} {i j:Nat} :jc.isZ (jC jc R i j)=decide (xi R i j=0):=rfl
theorem kQ.noInt {base:Nat} {v:Value} {V:List Rat} (h:kQ w base v V):ko v:=by
 obtain⟨es,h1,_⟩:=h;exact Gx h1
theorem kQ.below {base:Nat} {v:Value} {V:List Rat} (h:kQ w base v V) (hb:Below w.heap.size w w1):kQ w1 base v V:=
 h.keep (kv.below hb) fun k hk=>hb.block k (h.lt k hk).2
theorem xe {e:TypeId} {size base m:Nat} {xs:List Value} (h:kw w kx cv) (ho:w.ownsRow base e size cv m xs) (hb:Below w.heap.size w w1):kw w1 kx cv:=
 h.same fun k hk=>hb.block k (ho.lt k hk).2
theorem zU.below (h:zU n g R w w1 S fr cv pv) (hb:Below w1.heap.size w1 w2):zU n g R w w2 S fr cv pv:=
 ⟨h.mx.below hb,h.out.below hb h.out.lt,h.res.below hb h.res.lt,kD h.cown hb,xe h.cin h.cown hb,h.pown.below hb,h.same,h.len,h.perm,h.hfr,h.go,h.ok,h.buts.below hb⟩
theorem zU.mid (HM:j5 w g R n) (h:zU n g R w w1 S fr cv pv):kH n g R w w1 S.cols S.piv S.rows S.odd cv pv:=
 ⟨h.mx,h.out,h.res,h.cown,h.cin,h.pown,h.len,h.perm,fun _ hk=>HM.lt hk,h.buts⟩
theorem kH.below (h:kH n g R w w1 C V Q odd cv pv) (hb:Below w1.heap.size w1 w2):kH n g R w w2 C V Q odd cv pv:=
 ⟨h.mx.below hb,h.out.below hb h.out.lt,h.res.below hb h.res.lt,kD h.cown hb,xe h.cin h.cown hb,h.pown.below hb,h.len,h.perm,h.lt,h.buts.below hb⟩
theorem kH.drew (h:kH n g R w w1 C V Q odd cv pv):kH n g R w w1.drew C V Q odd cv pv:=h.below ((Below.refl _ _).drew)
theorem kH.resNo (h:kH n g R w w1 C V Q odd cv pv):∀c∈[jn,cv,pv,.bool odd],ko c:=by
 intro c hc;simp only[QbC,QbJ,or_false] at hc;rcases hc with rfl | rfl | rfl | rfl
 ·exact jr _ _ _
 ·exact Gx h.cown
 ·exact h.pown.noInt
 ·exact ju _
theorem kH.swap (h:kH n g R w w1 C V Q odd cv pv) {i j:Nat} {a b:js} (hi:Q[i]? =some a) (hj:Q[j]? =some b):
  kH n g R w (((w1.setCell ⟨g,i,none⟩ (jV n b)).setCell ⟨g,j,none⟩ (jV n a)).drew) C V (kU Q i j) odd cv pv:=by
 have hg:=h.lt g (.inl rfl)
 have hB:jk g w1 (((w1.setCell ⟨g,i,none⟩ (jV n b)).setCell ⟨g,j,none⟩ (jV n a)).drew):=by
  have:=((jk.refl g w1).setCell ⟨g,i,none⟩ rfl (jV n b)).setCell ⟨g,j,none⟩ rfl (jV n a);exact⟨this.os,this.tape,this.output,this.size,this.block⟩
 have hK:=kv.but hB h.mx.own (Uv n Q);refine⟨(h.mx.swap hi hj).below ((Below.refl _ _).drew),h.out.but hB (by omega),h.res.but hB (by omega),QF h.cown hB (by omega),h.cin.same (fun k hk=>hB.block k (h.cown.lt k hk).2 (by have:=(h.cown.lt k hk).1;omega)),h.pown.keep hK (fun k hk=>hB.block k (h.pown.lt k hk).2 (by have:=(h.pown.lt k hk).1;omega)),by rw[QZ,h.len],((K4 Q i j).map _).trans h.perm,h.lt,h.buts.but hB (by simp)⟩
theorem kH.setOdd (h:kH n g R w w1 C V Q odd cv pv) (b:Bool):kH n g R w (w1.setCell ⟨w.heap.size+1,3,none⟩ (.bool b)) C V Q b cv pv:=by
 have hB:jk (w.heap.size+1) w1 (w1.setCell ⟨w.heap.size+1,3,none⟩ (.bool b)):=(jk.refl _ w1).setCell ⟨w.heap.size+1,3,none⟩ rfl (.bool b);have hK:=kv.but hB h.res h.resNo;refine⟨h.mx.keep hK (fun k hk=>hB.block k (h.mx.lt hk) (by have:=h.lt k (hk.imp id fun x=>h.perm.mem_iff.1 x);omega)),h.out.but hB (by omega),?_,QF h.cown hB (by omega),h.cin.same (fun k hk=>hB.block k (h.cown.lt k hk).2 (by have:=(h.cown.lt k hk).1;omega)),h.pown.keep hK (fun k hk=>hB.block k (h.pown.lt k hk).2 (by have:=(h.pown.lt k hk).1;omega)),h.len,h.perm,h.lt,h.buts.setNew _ (by simp) _⟩;exact h.res.put 3 (.bool b)
theorem kH.setRow (h:kH n g R w w1 C V Q odd cv pv) {r:js} (hr:Q[i]? =some r) {L:List Rat} (hO:∃es,jq w2 r.1 es L) (hl:L.length=n) (hb:jk r.1 w1 w2):
  kH n g R w w2 C V (setRow Q i L) odd cv pv:=by
 have hrb:r.1∈R.map (·.1):=h.perm.mem_iff.1 (Qa1 (Qab hr));have hlt:=h.lt r.1 (.inr hrb);obtain⟨es0,he0⟩:=(h.mx.row r (Qab hr)).1;have hK:=kv.but hb he0.own he0.noInt;exact⟨h.mx.setRow hr hO hl hb,h.out.but hb (by omega),h.res.but hb (by omega),QF h.cown hb (by omega),h.cin.same (fun k hk=>hb.block k (h.cown.lt k hk).2 (by have:=(h.cown.lt k hk).1;omega)),h.pown.keep hK (fun k hk=>hb.block k (h.pown.lt k hk).2 (by have:=(h.pown.lt k hk).1;omega)),by rw[Ke];exact h.len,by rw[Kd];exact h.perm,h.lt,h.buts.but hb (QbU _ hrb)⟩
theorem jq.rowKeep {px:Nat} {e:El} {x:Rat} (hp:jq w1 px [e] [x]) (hlt:w.heap.size≤px) (h:kH n g R w w1 C V Q odd cv pv) {r:js} (hr:Q[i]? =some r) (hb:jk r.1 w1 w2):jq w2 px [e] [x]:=by
 have hrb:r.1∈R.map (·.1):=h.perm.mem_iff.1 (Qa1 (Qab hr));have:=h.lt r.1 (.inr hrb);obtain⟨es0,he0⟩:=(h.mx.row r (Qab hr)).1;exact hp.keeps (kv.but hb he0.own he0.noInt) (hb.block px hp.own.lt (by omega))
theorem kH.addCol (h:kH n g R w w1 C V Q odd cv pv) {o:Obj} {v5:Value} {j:Nat} (hown:w2.ownsRow (w.heap.size+2) 3 1 v5 (C.length+1) (jm C++[.int .i64 (j:Int)])) (hall:kw w2 kx v5) (hg:(w1.alloc o).grownBy w2 cv.ownBlock):
  ja w2 (w.heap.size+1) 74 [jn,cv,pv,.bool odd]∧kH n g R w (w2.setCell ⟨w.heap.size+1,1,none⟩ v5) (C++[j]) V Q odd v5 pv ∧
  (∀(px:Nat) (e:El) (x:Rat),w.heap.size+2≤px→jq w1 px [e] [x]→jq (w2.setCell ⟨w.heap.size+1,1,none⟩ v5) px [e] [x]):=by
 have ha:Below w1.heap.size w1 (w1.alloc o):=(Below.refl _ _).alloc (Nat.le_refl _) _;have hm:=h.below ha
 have hcv:∀k,cv.ownBlock=some k→w.heap.size+2≤k:=fun k hk=>(hm.cown.lt k hk).1
 have hX:=hm.res.grown hg (fun e=>by have:=hcv _ e;omega);have hlt:=h.lt;have hK1:=kv.grown hg hm.cown hm.cin;have hB:jk (w.heap.size+1) w2 (w2.setCell ⟨w.heap.size+1,1,none⟩ v5):=(jk.refl _ w2).setCell ⟨w.heap.size+1,1,none⟩ rfl v5;have hK2:=kv.but hB hX hm.resNo;have hK:=hK1.trans hK2;have hsz:=hg.size
 have hbl:∀k,k<(w1.alloc o).heap.size→k≠w.heap.size+1→cv.ownBlock≠some k→(w2.setCell ⟨w.heap.size+1,1,none⟩ v5).heap[k]? =(w1.alloc o).heap[k]? :=fun k h1 h2 h3=>
  (hB.block k (by omega) h2).trans (hg.block k h1 (fun e=>h3 e.symm))
 refine⟨hX,⟨hm.mx.keep hK (fun k hk=> ?_),?_,hX.put 1 v5,?_,hall.same (fun k hk=>hB.block k (hown.lt k hk).2 (by have:=(hown.lt k hk).1;omega)),?_,h.len,h.perm,h.lt,(hm.buts.grown hg (fun k hk=>by have:=hcv k hk;omega)).setNew _ (by simp) _⟩,fun px e x hpx hq=> ?_⟩
 ·have hk':=h.lt k (hk.imp id fun x=>h.perm.mem_iff.1 x)
  exact hbl k (hm.mx.lt hk) (by omega) (fun e=>by have:=hcv k e;omega)
 ·exact(hbl _ hm.out.lt (by omega) (fun e=>by have:=hcv _ e;omega)).trans hm.out
 ·rw[x7,Qaf]
  exact xP hown ⟨w.heap.size+1,1,none⟩ (by simp) _
 ·refine hm.pown.keep hK fun k hk=>hbl k (hm.pown.lt k hk).2 (by have:=(hm.pown.lt k hk).1;omega) ?_
  obtain⟨es,hp,_⟩:=hm.pown;exact QK hp hm.cown (by decide) k hk
 ·have hq2:=hq.below ha
  exact hq2.keeps hK (hbl px hq2.own.lt (by omega) (Uc hq2.own hm.cown (by decide)))
theorem kH.addPiv (h:kH n g R w w1 C V Q odd cv pv) {es:List El} (ho:w1.ownsRow (w.heap.size+2) 69 3 pv V.length (jA es)) (hl:es.length=V.length) (ha0:kw w1 kx pv) (hr:∀(i:Nat) (e:El) (q:Rat),es[i]? =some e→V[i]? =some q→Rt w1 (qk e) q)
  {o:Obj} {v5:Value} {e:El} {x:Rat} (hx:Rt w1 (qk e) x) (hown:w2.ownsRow (w.heap.size+2) 69 3 v5 (V.length+1) (jA es++J1 e)) (hall:kw w2 kx v5) (hg:(w1.alloc o).grownBy w2 pv.ownBlock):
  ja w2 (w.heap.size+1) 74 [jn,cv,pv,.bool odd]∧kH n g R w (w2.setCell ⟨w.heap.size+1,2,none⟩ v5) C (V++[x]) Q odd cv v5:=by
 have ha:Below w1.heap.size w1 (w1.alloc o):=(Below.refl _ _).alloc (Nat.le_refl _) _;have hm:=h.below ha
 have hcv:∀k,pv.ownBlock=some k→w.heap.size+2≤k:=fun k hk=>(hm.pown.lt k hk).1
 have hX:=hm.res.grown hg (fun e=>by have:=hcv _ e;omega);have hlt:=h.lt;have hK1:=kv.grown hg (kD ho ha) (xe ha0 ho ha);have hB:jk (w.heap.size+1) w2 (w2.setCell ⟨w.heap.size+1,2,none⟩ v5):=(jk.refl _ w2).setCell ⟨w.heap.size+1,2,none⟩ rfl v5;have hK2:=kv.but hB hX hm.resNo;have hK:=hK1.trans hK2;have hsz:=hg.size
 have hbl:∀k,k<(w1.alloc o).heap.size→k≠w.heap.size+1→pv.ownBlock≠some k→(w2.setCell ⟨w.heap.size+1,2,none⟩ v5).heap[k]? =(w1.alloc o).heap[k]? :=fun k h1 h2 h3=>
  (hB.block k (by omega) h2).trans (hg.block k h1 (fun e=>h3 e.symm))
 have hcp:∀k,cv.ownBlock=some k→pv.ownBlock≠some k:=fun k hk=>QK h.cown ho (by decide) k hk
 refine⟨hX,⟨hm.mx.keep hK (fun k hk=> ?_),?_,hX.put 2 v5,?_,?_,?_,h.len,h.perm,h.lt,(hm.buts.grown hg (fun k hk=>by have:=hcv k hk;omega)).setNew _ (by simp) _⟩⟩
 ·have hk':=h.lt k (hk.imp id fun x=>h.perm.mem_iff.1 x)
  exact hbl k (hm.mx.lt hk) (by omega) (fun e=>by have:=hcv k e;omega)
 ·exact(hbl _ hm.out.lt (by omega) (fun e=>by have:=hcv _ e;omega)).trans hm.out
 ·exact xt hm.cown fun k hk hv=>hbl k hk (by have:=(hm.cown.lt k hv).1;omega) (hcp k hv)
 ·exact hm.cin.same fun k hv=>hbl k (hm.cown.lt k hv).2 (by have:=(hm.cown.lt k hv).1;omega) (hcp k hv)
 ·refine⟨es++[e],?_,by simp[hl],hall.same (fun k hk=>hB.block k (hown.lt k hk).2 (by have:=(hown.lt k hk).1;omega)),fun i e' q he hq=> ?_⟩
  ·rw[V0,Qaf]
   exact xP hown ⟨w.heap.size+1,2,none⟩ (by simp) _
  ·rcases Qae i es.length with hi | hi
   ·rw[QaB hi] at he
    rw[QaB (by omega)] at hq;exact((hr i e' q he hq).below ha).keeps hK
   ·rw[QaH hi] at he
    rw[QaH (by omega)] at hq;rw[←hl] at hq
    have h0:i-es.length=0:=by
     rcases QaA (i-es.length) with h0 | h0
     ·exact h0
     ·rw[Qah (by simp;omega)] at he;cases he
    rw[h0] at he hq;simp at he hq;subst he hq;exact(hx.below ha).keeps hK
theorem kH.inv {wf:World} {i j:Nat} {Q':List js} {x:Rat} (h:kH n g R w wf (S.cols++[j]) (S.piv++[x]) Q' odd cv pv) (hS:kg jc i j S=⟨Q',S.cols++[j],S.piv++[x],odd⟩) (hs:S.piv.length=S.cols.length) (hj:j<n) (hl:S.cols.length<R.length)
  (hp:kK jc S.rows S.cols.length (n-fr) fr=some (i,j)) (hgo:jy jc n (R.length-S.cols.length) fr S=jy jc n R.length 0 ⟨R,[],[],false⟩) (hok:qU n (R.length-S.cols.length) fr S):zU n g R w wf (kg jc i j S) (j+1) cv pv:=by
 have hgo':jy jc n (R.length-(S.cols++[j]).length) (j+1) (kg jc i j S)=jy jc n R.length 0 ⟨R,[],[],false⟩:=by
  rw[←hgo,show R.length-S.cols.length=(R.length-(S.cols++[j]).length)+1 by simp;omega,Zo hp]
 have hok':qU n (R.length-(S.cols++[j]).length) (j+1) (kg jc i j S):=by
  rw[show R.length-S.cols.length=(R.length-(S.cols++[j]).length)+1 by simp;omega] at hok;exact(hok.some hp).2
 rw[hS] at hgo' hok' ⊢;exact⟨h.mx,h.out,h.res,h.cown,h.cin,h.pown,by simp[hs],h.len,h.perm,hj,hgo',hok',h.buts⟩
end
theorem V6 {n g c:Nat} {R:List js} {w wr wf:World} {S:jw Rat} {fr:Nat} {cv pv:Value} {e:Ending} (HM:j5 w g R n) (hE:zU n g R w wr S fr cv pv) (hS:S.cols.length≤R.length)
  (hgo:S=jy jc n R.length 0 ⟨R,[],[],false⟩) (hB:Below w.heap.size wr wf) (h2:∀k,k≠w.heap.size→k≠w.heap.size+1→wf.heap[k]? =wr.heap[k]?) (he:e = .returned (.agg #[.slice (some ⟨g,0,none⟩) S.piv.length c,cv,pv,.bool S.odd])):XM n g c R w e wf:=by
 have hlt:∀k,k=g∨k∈S.rows.map (·.1)→k<w.heap.size:=fun k hk=>HM.lt (hk.imp id fun h=>hE.perm.mem_iff.1 h)
 have hM:=hE.mid HM
 have hK:kv wr wf:=by
  refine⟨hB.size,fun b hb=> ?_⟩;by_cases h0:b=w.heap.size
  ·subst h0
   refine .inr fun cur e fr hh x hx=> ?_
   have:=hE.out;unfold ja at this;rw[this] at hh
   injection hh with hh
   injection hh with hh _ _
   subst hh;simp at hx;rcases hx with rfl | rfl
   ·exact(jr _ _ _).noU
   ·exact(ju _).noU
  ·by_cases h1:b=w.heap.size+1
   ·subst h1
    refine .inr fun cur e fr hh x hx=> ?_
    have:=hE.res;unfold ja at this;rw[this] at hh
    injection hh with hh
    injection hh with hh _ _
    subst hh;exact(hM.resNo x (by simpa using hx)).noU
   ·exact .inl (h2 b h0 h1)
 refine⟨S,hgo,cv,pv,he,hE.mx.keep hK (fun k hk=>hB.block k (hlt k hk)),?_,?_,hE.same,?_,hE.len,hE.perm,hE.buts.belowAt hB⟩
 ·exact zJ (xt hE.cown fun k _ hv=>h2 k (by have:=(hE.cown.lt k hv).1;omega) (by have:=(hE.cown.lt k hv).1;omega)) (by omega)
 ·have hp:=hE.pown.keep hK (fun k hv=>h2 k (by have:=(hE.pown.lt k hv).1;omega) (by have:=(hE.pown.lt k hv).1;omega))
  obtain⟨es,h1,h2,h3,h4⟩:=hp;exact⟨es,zJ h1 (by omega),h2,h3,h4⟩
 ·rw[hE.same,hE.len];exact hS
abbrev B9:Nat:=1000000000
def jb:List Nat→Nat
 | []=>0
 | x::r=>x+B9*jb r
def jI (ws:List Nat):Prop:=∀x∈ws,x<B9
theorem KA:jI []:=fun x hx=>by simp at hx
theorem Kz {a b:List Nat} :jI (a++b)↔jI a∧jI b:=by
 unfold jI;simp only[Qby];exact⟨fun h=>⟨fun x hx=>h x (.inl hx),fun x hx=>h x (.inr hx)⟩,fun h x hx=>hx.elim (h.1 x) (h.2 x)⟩
theorem JX {x:Nat} :jI [x]↔x<B9:=by unfold jI;simp
theorem Jv {ws:List Nat} (h:jI ws) (k:Nat):jI (ws.take k):=fun x hx=>h x (Qbp hx)
theorem kR {ws:List Nat} (h:jI ws) (k:Nat):ws[k]?.getD 0<B9:=by
 rcases Qae k ws.length with hk | hk
 ·rw[Qaa hk];exact h _ (Qay hk)
 ·rw[Qah hk];decide
theorem KB (a b:List Nat):jb (a++b)=jb a+B9^a.length*jb b:=by
 induction a with
 | nil=>simp[jb]
 | cons x r ih=>
  simp only[QbZ,jb,ih,QaR,QaD];rw[Qau,←Qal,Qam B9 (_^_),Qb9]
theorem Jw (l:List Nat) (x:Nat):jb (l++[x])=jb l+B9^l.length*x:=by rw[KB];simp[jb]
theorem YZ (ws:List Nat):jb (jH ws)=jb ws:=by
 refine Kg (P:=fun ws=>jb (jH ws)=jb ws) rfl (fun l x ih=> ?_) ws;by_cases h:x=0
 ·subst h;rw[Jn,ih,KB];simp[jb]
 ·rw[Jm l x h]
theorem Vu {ws:List Nat} (h:jI ws):jI (jH ws):=by
 intro x hx;apply h;unfold jH at hx;rw[List.mem_reverse] at hx;exact List.mem_reverse.1 ((List.dropWhile_sublist _).mem hx)
theorem qN {ws:List Nat} (h:jI ws):jb ws<B9^ws.length:=by
 induction ws with
 | nil=>simp[jb]
 | cons x r ih=>
  have hx:=h x (by simp);have hr:=ih (fun y hy=>h y (by simp[hy]));simp only[jb,QaR,QaD];have:B9*(jb r+1)≤B9*B9^r.length:=Qan _ hr;rw[Qam (_^_) B9];rw[Qau,Qbr] at this;omega
theorem Ky {ws:List Nat} (h:kp ws) (hne:ws≠[]):B9^(ws.length-1)≤jb ws:=by
 revert h hne;refine Kg (P:=fun ws=>kp ws→ws≠[]→B9^(ws.length-1)≤jb ws) (fun _ h=>absurd rfl h) (fun l x _ h _=> ?_) ws;by_cases hx:x=0
 ·subst hx
  unfold kp at h;rw[Jn] at h;have:=Ko l;rw[h] at this;simp at this;omega
 ·rw[Jw]
  have:B9^l.length*1≤B9^l.length*x:=Qan _ (by omega)
  simp;omega
theorem Vr {ws:List Nat} (h:kp ws):jb ws=0↔ws=[]:=by
 constructor
 ·intro h0
  rcases List.eq_nil_or_concat ws with rfl | ⟨l,x,rfl⟩
  ·rfl
  ·have:=Ky h (by simp)
   have hp:0<B9^((l.concat x).length-1):=Nat.pow_pos (by decide);omega
 ·rintro rfl;rfl
theorem kh (ws:List Nat):(jm ws).length=ws.length:=by simp[jm]
theorem qq (ws:List Nat) (k:Nat) (h:k<ws.length):(jm ws)[k]? =some (Value.int .i64 ((ws[k]?.getD 0:Nat):Int)):=by
 simp[jm,h]
theorem ZS (ws:List Nat) (k:Nat):(jm ws).take k=jm (ws.take k):=by simp[jm]
theorem jD.take {w:World} {A:Option Addr} {n c k:Nat} {xs:List Value} (h:jD w (.slice A n c) xs) (hk:k≤xs.length):jD w (.slice A k c) (xs.take k):=by
 obtain⟨A',c',hv,h1,h2,h3⟩:=h
 obtain⟨rfl,rfl,rfl⟩:A=A'∧n=xs.length∧c=c':=by simpa using hv
 have hl:(xs.take k).length=k:=by rw[Qak];omega
 refine⟨A,c,by rw[hl],by omega,by omega,fun hn=> ?_⟩;obtain⟨b,off,hA,hb,hc⟩:=h3 (by omega);refine⟨b,off,hA,hb,fun j hj=> ?_⟩;rw[hc j (by omega),QbR,if_pos (by omega)]
theorem Yz (A:Option Addr) (c:Nat) (ws:List Nat) (w:World) (hv:jD w (.slice A ws.length c) (jm ws)):
  Calls Tryz.prog 187 #[.slice A ws.length c] w fun e w'=>e = .returned (.slice A (jH ws).length c)∧jD w (.slice A (jH ws).length c) (jm (jH ws))∧w=w':=by
 have hc:=hv.form;obtain⟨A0,c0,hv0,hc1,hc2⟩:=hc;rw[kh] at hc1 hc2 hv0
 obtain⟨rfl,rfl⟩:A=A0∧c=c0:=by simpa using hv0
 clear hv0;go_enter Tryz.func187,Tryz.ntmps187
 go_wp2
 go_loopg [0] ws.length (fun g u wr=>∃k:Nat,u = .slice A k c∧k≤ws.length∧g=k∧Hid (jH (ws.take k)=jH ws)∧wr=w)
 case atStart=>exact⟨ws.length,rfl,by omega,rfl,hid (by simp),rfl⟩
 case round=>
  obtain⟨k,rfl,hk,rfl,hf,rfl⟩:=hrel;by_cases h0:0<gk
  ·obtain⟨j,rfl⟩:∃j,gk=j+1:=⟨gk-1,by omega⟩
   obtain⟨b,off,rfl,hb,hcell⟩:=hv.at_ (k:=j) (by rw[kh];omega);have hck:=hcell j (by rw[kh];omega);rw[qq ws j (by omega)] at hck;have Ht:=hid (zl ws j (by omega));generalize hx:ws[j]?.getD 0=x at hck Ht;clear hx hcell;by_cases hz:x=0
   ·subst hz
    have HS:Hid (jH (ws.take j)=jH ws):=hid (by rw[←hf.out,Ht.out,Jn]);clear hf Ht
    go_wp2
    go_roundg j
    case rel=>exact⟨j,rfl,by omega,rfl,HS,rfl⟩
    case measure=>omega
   ·have hz':(((x:Nat):Int)==0)=false:=by simpa using hz
    have hlen:jH ws=ws.take (j+1):=by rw[←hf.out,Ht.out,Jm _ _ hz]
    have hsl:=hv.take (k:=j+1) (by rw[kh];omega);rw[ZS,←hlen] at hsl
    have hn:(jH ws).length=j+1:=by rw[hlen];simp;omega
    have Hn:=hid hn;clear hn;have HSL:=hid hsl;clear hlen hsl hf Ht hz
    go_wp2
    go_ret;refine⟨by rw[Hn.out];rfl,by rw[Hn.out];exact HSL.out,rfl⟩
  ·have:gk=0:=by omega
   subst this
   have hn:jH ws=[]:=by rw[←hf.out];rfl
   have Hn:=hid hn;clear hn;have HSL:=hid (hv.take (k:=0) (by omega));clear hf
   go_wp2
   go_ret;refine⟨by rw[Hn.out];rfl,by rw[Hn.out];exact HSL.out,rfl⟩
def Ri (w:World) (v:Value) (x:Int):Prop:=∃dv ws,v = .agg #[.bool (decide (x<0)),dv]∧jb ws=x.natAbs∧jI ws∧kp ws∧jD w dv (jm ws)
theorem Ri.below {w w':World} {v:Value} {x:Int} (h:Ri w v x) (hb:Below w.heap.size w w'):Ri w' v x:=by
 obtain⟨dv,ws,h1,h2,h3,h4,h5⟩:=h;exact⟨dv,ws,h1,h2,h3,h4,h5.below hb⟩
theorem K2 (neg:Bool) (n:Nat):(sg neg n).natAbs=n:=by unfold sg;split <;> simp
theorem Eb (neg:Bool) (n:Nat):decide (sg neg n<0)=(neg&&decide (0<n)):=by
 unfold sg;cases neg
 ·simp
 ·simp
theorem Ib (ws:List Nat):jH ws=ws.take (jH ws).length:=by
 refine Kg (P:=fun ws=>jH ws=ws.take (jH ws).length) rfl (fun l x ih=> ?_) ws;by_cases h:x=0
 ·subst h
  rw[Jn,List.take_append_of_le_length (Ko l)];exact ih
 ·rw[Jm l x h,Qad (Nat.le_refl _)]
theorem Gw (w:World) (t:TypeId) (a b:Value):(w.alloc (.cells #[a,b] t)).cell? ⟨w.heap.size,0,none⟩=some a∧(w.alloc (.cells #[a,b] t)).cell? ⟨w.heap.size,1,none⟩=some b:=by
 constructor <;> rw[World.cell?_alloc_at _ _ _ _ rfl] <;> rfl
def kZ (x:Int) (w:World) (e:Ending) (w':World):Prop:=∃v,e = .returned v∧Ri w' v x∧Below w.heap.size w w'
theorem xR (neg:Bool) (dv:Value) (ws:List Nat) (w:World) (hok:jI ws) (hv:jD w dv (jm ws)):
  Calls Tryz.prog 169 #[.bool neg,dv] w (kZ (sg neg (jb ws)) w):=by
 obtain⟨A,c,rfl,hc1,hc2⟩:=hv.form;rw[kh] at *;have HV:=hid hv;clear hv;have HOK:=hid hok;clear hok
 have HS:Hid (jD w (.slice A (jH ws).length c) (jm (jH ws))):=hid (by
  have h:=HV.out.take (k:=(jH ws).length) (by rw[kh];exact Ko ws)
  rw[ZS,←Ib] at h;exact h)
 have HP:Hid (decide (0<jb ws)=decide (0<(jH ws).length)):=hid (by
  rw[←YZ];have:=Vr (YJ ws)
  cases h:jH ws with
  | nil=>rfl
  | cons a r=>
   have h1:jb (a::r)≠0:=fun e=>by rw[←h] at e;have:=this.1 e;rw[h] at this;cases this
   simp;omega)
 have HF:Hid (∀b:Bool,b=(neg&&decide (0<(jH ws).length))→kZ (sg neg (jb ws)) w (.returned (.agg #[.bool b,.slice A (jH ws).length c])) (w.alloc (.cells #[.bool b,.slice A (jH ws).length c] 178))):=hid (fun b hb=>by
  have hB:Below w.heap.size w (w.alloc (.cells #[.bool b,.slice A (jH ws).length c] 178)):=(Below.refl _ _).alloc (Nat.le_refl _) _
  exact⟨_,rfl,⟨_,jH ws,by rw[Eb,HP.out,hb],by rw[K2,YZ],Vu HOK.out,YJ ws,HS.out.below hB⟩,hB⟩)
 have HL:=hid (Ko ws);go_enter Tryz.func169,Tryz.ntmps169
 go_wp2_with fail
 refine(Yz A c ws _ (HV.out.below ((Below.refl _ _).alloc (Nat.le_refl _) _))).mono ?_;rintro e w1 ⟨rfl,hs,rfl⟩;clear hs
 cases neg with
 | true=>
  go_wp2
  obtain⟨z0,z1⟩:=Gw w 178 (.bool (decide (0<(jH ws).length))) (.slice A (jH ws).length c);exact bodyPost_ret (v:= .agg #[.bool (decide (0<(jH ws).length)),.slice A (jH ws).length c]) (by simp[results,Tryz.results169,go_sem,z0,z1]) rfl (HF.out _ (by simp))
 | false=>
  go_wp2
  obtain⟨z0,z1⟩:=Gw w 178 (.bool false) (.slice A (jH ws).length c);exact bodyPost_ret (v:= .agg #[.bool false,.slice A (jH ws).length c]) (by simp[results,Tryz.results169,go_sem,z0,z1]) rfl (HF.out _ (by simp))
theorem Gy (n:Int):kx (.int .i64 n):=by intro m h;cases h
theorem Cr (n:Int):∀u∈[Value.int .i64 n],kx u:=by intro u hu;simp at hu;subst hu;exact Gy n
theorem Ig:∀u∈(Value.int .i64 0).cells.toList,kx u:=by intro u hu;simp[Value.cells] at hu;subst hu;exact Gy 0
def yN:Value:= .agg #[.bool false,.slice none 0 0,.slice none 0 0]
theorem Qv:(Tryz.prog.info? 69).map (fun i=>(i.zero,i.size,i.bytes))=some (some yN,3,56):=by kernel_rfl
theorem UX:∀u∈yN.cells.toList,kx u:=by
 intro u hu;simp[Value.cells,yN] at hu;rcases hu with rfl | rfl
 ·exact(ju _).noU
 ·exact(jr _ _ _).noU
theorem ZV (s:Bool) (A B:Option Addr) (n m c d:Nat):∀u∈[Value.bool s,.slice A n c,.slice B m d],kx u:=by
 intro u hu;simp at hu;rcases hu with rfl | rfl | rfl
 ·exact(ju _).noU
 ·exact(jr _ _ _).noU
 ·exact(jr _ _ _).noU
theorem QH (s:Bool) (A B:Option Addr) (n m c d:Nat):∀u∈[Value.bool s,.slice A n c,.slice B m d],u.oneCell'=true:=by
 intro u hu;simp at hu;rcases hu with rfl | rfl | rfl <;> rfl
theorem Y2 (w:World) (a b c:Value) (t:TypeId):∀j u,[a,b,c][j]? =some u→(w.alloc (.cells #[a,b,c] t)).cell? ((⟨w.heap.size,0,none⟩:Addr).add j)=some u:=by
 intro j u hu;have h:=ja.make w t [a,b,c]
 have e:((⟨w.heap.size,0,none⟩:Addr).add j)=⟨w.heap.size,j,none⟩:=by
  unfold Addr.add;split
  ·subst j;rfl
  ·simp
 rw[e];exact(h.cell j).trans hu
theorem zY.parts {S:jw Rat} {i j ib ic:Nat} {il:List Rat} {Q:List js} {x:Rat} (h:zY i j S) (hQ:j8 i S=Q) (hr:Q[S.cols.length]? =some (ib,ic,il)) (hx:il[j]?.getD 0=x):
  (∀x∈il,kI x) ∧ ∀(k:Nat) (r:js),(setRow Q S.cols.length (j3 jc x j il))[k]? =some r→k≠S.cols.length→Xc j r.2.2 (j3 jc x j il):=by
 have e1:elPiv jc i j S=x:=by unfold elPiv jC;rw[hQ,qF hr];exact hx
 have e2:elDiv jc i j S=setRow Q S.cols.length (j3 jc x j il):=by unfold elDiv;rw[e1,hQ,qF hr]
 have e3:jL (elDiv jc i j S) S.cols.length=j3 jc x j il:=by rw[e2,qF (qG hr _)]
 obtain⟨h1,h2⟩:=h;rw[hQ,qF hr] at h1;rw[e3,e2] at h2;exact⟨h1,h2⟩
end Go.Proofs.YteagkgagdelklaaGreatDoor
namespace Go.Proofs.YteagkgagdelklaaGreatDoor
section
variable {T:Type} {F:Fd T}
def jv (R:List (jR T)):List (List T):=R.map (·.2.2)
theorem zN (R:List (jR T)) (i:Nat):jL R i=(jv R)[i]?.getD []:=by
 unfold jL jv;rw[Qao]
theorem yd (R:List (jR T)):(jv R).length=R.length:=by simp[jv]
theorem Yb {R Q:List (jR T)} (h:jv R=jv Q) (i j:Nat):jC F R i j=jC F Q i j:=by unfold jC;rw[zN,zN,h]
theorem WL {R Q:List (jR T)} (h:jv R=jv Q):R.length=Q.length:=by rw[←yd R,←yd Q,h]
theorem DK {R Q:List (jR T)} (h:jv R=jv Q) (j k i:Nat):yn F R j k i=yn F Q j k i:=by
 induction k generalizing i with
 | zero=>rfl
 | succ k ih=>unfold yn;rw[Yb h,ih]
theorem GX {R Q:List (jR T)} (h:jv R=jv Q) (top k j:Nat):kK F R top k j=kK F Q top k j:=by
 induction k generalizing j with
 | zero=>rfl
 | succ k ih=>unfold kK;rw[DK h,WL h,ih]
theorem PM {R Q:List (jR T)} (h:jv R=jv Q) (i j:Nat):jv (kU R i j)=jv (kU Q i j):=by
 have e:∀R:List (jR T),jv (kU R i j)=kU (jv R) i j:=fun R=>by
  unfold kU jv;rw[Qao,Qao];cases R[i]? <;> cases R[j]? <;> simp[List.map_set]
 rw[e,e,h]
theorem PJ {R Q:List (jR T)} (h:jv R=jv Q) (i:Nat) (L:List T):jv (setRow R i L)=jv (setRow Q i L):=by
 have e:∀R:List (jR T),jv (setRow R i L)=(jv R).modify i (fun _=>L):=fun R=>by
  unfold setRow jv;apply Qaw;intro k;simp only[Qao,List.getElem?_modify]
  cases R[k]? with
  | none=>rfl
  | some r=>simp only[QaC];split <;> rfl
 rw[e,e,h]
theorem PH {R Q:List (jR T)} (h:jv R=jv Q) (top o:Nat) (P:List T) (k:Nat):jv (jY F top o P R k)=jv (jY F top o P Q k):=by
 have e:∀R:List (jR T),jv (jY F top o P R k)=(jv R).mapIdx fun i L=>if i<k∧i≠top then kY F o L P else L:=fun R=>by
  unfold jY jv;apply Qaw;intro j;simp only[Qao,Qaj]
  cases R[j]? with
  | none=>rfl
  | some r=>simp only[QaC];split <;> rfl
 rw[e,e,h]
structure ks (S Z:jw T):Prop where
 rows:jv S.rows=jv Z.rows
 cols:S.cols=Z.cols
 piv:S.piv=Z.piv
 odd:S.odd=Z.odd
variable {S Z:jw T}
theorem ks.swap (h:ks S Z) (row:Nat):jv (j8 row S)=jv (j8 row Z):=by
 unfold j8;rw[h.cols];split
 ·exact h.rows
 ·exact PM h.rows _ _
theorem ks.elPiv (h:ks S Z) (row col:Nat):elPiv F row col S=elPiv F row col Z:=by unfold Proofs.YteagkgagdelklaaGreatDoor.elPiv;rw[Yb (h.swap row),h.cols]
theorem ks.elDiv (h:ks S Z) (row col:Nat):jv (elDiv F row col S)=jv (elDiv F row col Z):=by
 unfold Proofs.YteagkgagdelklaaGreatDoor.elDiv;rw[h.elPiv,h.cols,zN,zN,h.swap row];exact PJ (h.swap row) _ _
theorem ks.step (h:ks S Z) (row col:Nat):ks (kg F row col S) (kg F row col Z):=by
 have hd:=h.elDiv (F:=F) row col;unfold kg;refine⟨?_,?_,?_,?_⟩
 ·dsimp only
  rw[h.cols,zN,zN,hd,WL hd];exact PH hd _ _ _ _
 ·dsimp only;rw[h.cols]
 ·dsimp only;rw[h.piv,h.elPiv]
 ·dsimp only;rw[h.cols,h.odd]
theorem ks.go (n:Nat):∀(k fr:Nat) {S Z:jw T},ks S Z→ks (jy F n k fr S) (jy F n k fr Z)
 | 0,_,_,_,h=>h
 | k+1,fr,S,Z,h=>by
  unfold jy;rw[GX h.rows,h.cols];split
  ·exact h
  ·exact ks.go n k _ (h.step _ _)
theorem ks.nsSet (h:ks S Z) (zero:T) (col k:Nat) (L:List T):nsSet F zero S col k L=nsSet F zero Z col k L:=by
 induction k with
 | zero=>rfl
 | succ k ih=>rw[Jd,Jd,ih,h.cols,Yb h.rows]
theorem ks.nsBasis (h:ks S Z) (zero one:T) (n k:Nat):nsBasis F zero one n S k=nsBasis F zero one n Z k:=by
 induction k with
 | zero=>rfl
 | succ k ih=>
  unfold Proofs.YteagkgagdelklaaGreatDoor.nsBasis x8;rw[ih,h.cols,h.nsSet]
def qX (M:List (List T)):List (jR T):=M.map fun L=>(0,0,L)
theorem Xl (M:List (List T)):jv (qX M)=M:=by unfold jv qX;rw[Qcs];simp[Function.comp_def]
theorem M9 {R:List (jR T)} {M:List (List T)} (h:jv R=M):ks (⟨R,[],[],false⟩:jw T) ⟨qX M,[],[],false⟩:=⟨by rw[Xl];exact h,rfl,rfl,rfl⟩
def j4 (F:Fd T) (n:Nat) (M:List (List T)):jw T:=jy F n M.length 0 ⟨qX M,[],[],false⟩
theorem J3 {R:List (jR T)} {M:List (List T)} (h:jv R=M) (n:Nat):ks (jy F n R.length 0 ⟨R,[],[],false⟩) (j4 F n M):=by
 unfold j4
 have hl:R.length=M.length:=by rw[←h,yd]
 rw[hl];exact ks.go n _ _ (M9 h)
theorem Gd (f:List T→List T) (R:List (jR T)):jv (km f R R.length)=(jv R).map f:=by
 rw[ZL];unfold jv;rw[Qcs,Qcs];rfl
end
section
variable {S Z:jw Rat}
theorem ks.stepOk (h:ks S Z) (row col:Nat) (hz:zY row col Z):zY row col S:=by
 obtain⟨h1,h2⟩:=hz;have hd:=h.elDiv (F:=jc) row col;refine⟨fun x hx=>h1 x ?_,fun i r hr hi=> ?_⟩
 ·rw[zN,←h.cols,←h.swap row,←zN];exact hx
 ·have hv:(jv (Proofs.YteagkgagdelklaaGreatDoor.elDiv jc row col Z))[i]? =some r.2.2:=by rw[←hd];unfold jv;rw[Qao,hr];rfl
  unfold jv at hv;rw[Qao] at hv
  cases hz:(Proofs.YteagkgagdelklaaGreatDoor.elDiv jc row col Z)[i]? with
  | none=>rw[hz] at hv;cases hv
  | some q=>
   rw[hz] at hv;have e:q.2.2=r.2.2:=QaE hv;have:=h2 i q hz (by rw[←h.cols];exact hi);rw[zN,←hd,←zN,←h.cols,e] at this;exact this
theorem ks.elOk (n:Nat):∀(k fr:Nat) {S Z:jw Rat},ks S Z→qU n k fr Z→qU n k fr S
 | 0,_,_,_,_,_=>trivial
 | k+1,fr,S,Z,h,hz=>by
  unfold qU at hz ⊢;rw[GX h.rows,h.cols];split
  ·trivial
  ·rename_i row col hp
   rw[hp] at hz;exact⟨h.stepOk _ _ hz.1,ks.elOk n k _ (h.step _ _) hz.2⟩
def yA (n:Nat) (M:List (List Rat)):Prop:=qU n M.length 0 ⟨qX M,[],[],false⟩
theorem yA.rows {n:Nat} {M:List (List Rat)} (h:yA n M) {R:List js} (hR:jv R=M):qU n R.length 0 ⟨R,[],[],false⟩:=by
 have hl:R.length=M.length:=by rw[←hR,yd]
 rw[hl];exact ks.elOk n _ _ (M9 hR) h
end
end Go.Proofs.YteagkgagdelklaaGreatDoor
namespace Go.Proofs.YteagkgagdelklaaGreatDoor
open Go.RowKit Go.Lib
theorem zF (a b:List El):jA (a++b)=jA a++jA b:=by
 induction a with
 | nil=>rfl
 | cons e t ih=>simp only[QbZ,jA,ih]
theorem M8 {P:Program} (w:World) (dT sT ty elem:TypeId) (size g o dLen dCap:Nat) (a:Addr) (sLen sCap:Nat) (cur:Array Value) (t:TypeId) (m:Nat) (cs:List Value)
  (hu:P.underlying dT=some (.slice elem)) (hs:(P.info? elem).map (·.size)=some size)
  (hg:w.heap[g]? =some (.cells cur t (0,0))) (hm:Nat.min sLen dLen=m) (hn:cs.length=m*size)
  (hsrc:∀j v,cs[j]? =some v→w.cell? (a.add j)=some v) (hfit:o+cs.length≤cur.size) (h1:∀v∈cs,v.oneCell'=true):
  (Builtin.copy_ #[dT,sT] ty #[.slice (some ⟨g,o,none⟩) dLen dCap,.slice (some a) sLen sCap]).run P w =
   .ok (goInt m) (w.setRow g (cur.toList.take o++cs++cur.toList.drop (o+cs.length)).toArray):=by
 have hl:=run_loadCells_list (P:=P) w a cs hsrc;have hst:=run_storeCells_at P g o t cs 0 cur w hg (by simpa using hfit) h1
 cases hq:P.info? elem with
 | none=>simp[hq] at hs
 | some i=>
  have hi:i.size=size:=by simpa [hq] using hs
  simp[Builtin.copy_,run_underlying hu,Builtin.lenOf,Builtin.firstCells,sizeOf,typeInfo,hq,hi,hm,←hn,hl,hst]
theorem P5 {P:Program} {w:World} {ops:Array Oper} {rest:List Oper} {o:Oper} {a:Act} {Q:Exit→Act→World→Prop} (hgd:o.guard=none) (d s:Operand) (dT sT:TypeId)
  (ho:o.op = .call { callee:= .builtin .copy,args:= #[d,s],argTypes:= #[dT,sT] }) (elem:TypeId) (size:Nat) (hu:P.underlying dT=some (.slice elem)) (hsz:(P.info? elem).map (·.size)=some size)
  (g off dLen dCap:Nat) (ad:Addr) (sLen sCap:Nat) (hd:a.eval d = .slice (some ⟨g,off,none⟩) dLen dCap) (hs:a.eval s = .slice (some ad) sLen sCap)
  (cur:List Value) (t:TypeId) (hg:w.heap[g]? =some (.cells cur.toArray t (0,0))) (m:Nat) (hm:Nat.min sLen dLen=m) (cs:List Value) (hn:cs.length=m*size)
  (hsrc:∀j v,cs[j]? =some v→w.cell? (ad.add j)=some v) (hfit:off+cs.length≤cur.length) (h1:∀v∈cs,v.oneCell'=true) (B:Nat) (w0:World) (hb:Below B w0 w) (hBg:B≤g)
  (h:∀w',Hid (w'.heap[g]? =some (.cells (splice cur off cs).toArray t (0,0)))→Below B w0 w'→wpList P ops Q rest (a.put o.dst (goInt m)) w'):wpList P ops Q (o::rest) a w:=by
 refine wpList_plain hgd fun K hK=> ?_
 have hrun:=M8 (P:=P) w dT sT o.type elem size g off dLen dCap ad sLen sCap cur.toArray t m cs hu hsz hg hm hn hsrc (by simpa using hfit) h1;unfold Oper.wp;simp[execOp,ho,resolve,invoke,builtin,hd,hs,hrun,Result.andThen];exact hK _ _ (h _ (show _=_ by simpa [splice] using setRow_heap w g _ _ t _ hg) (below_setRow hb hBg _))
abbrev kf:El:=(false,.slice none 0 0,.slice none 0 0)
theorem WU (n:Nat):(madeCells #[Value.bool false,.slice none 0 0,.slice none 0 0] (n*3)).toList=jA (List.replicate n kf):=by
 apply Qaw;intro j;unfold madeCells;simp only[Array.toList_map,Qao,Array.toList_range];rcases Qae j (n*3) with hj | hj
 ·rw[List.getElem?_range hj]
  have hq:j/3<n:=by omega
  obtain⟨h1,h2,h3⟩:=XJ (List.replicate n kf) (j/3) kf (by simp[hq]);have hd:=QaP j 3;have hm:=QaI j (show 0<3 by omega)
  have hc:j%3=0∨j%3=1∨j%3=2:=by omega
  rcases hc with hc | hc | hc
  ·have e:j/3*3=j:=by omega
   rw[e] at h1;rw[h1];simp[hc]
  ·have e:j/3*3+1=j:=by omega
   rw[e] at h2;rw[h2];simp[hc]
  ·have e:j/3*3+2=j:=by omega
   rw[e] at h3;rw[h3];simp[hc]
 ·rw[Qah (by simpa using hj),Qah (by rw[qP];simpa using hj)];rfl
def kM (e:El) (n k:Nat):List Value:=jA (List.replicate k e++List.replicate (n-k) kf)
theorem Wf (e:El) {n k:Nat} (h:k≤n):(kM e n k).length=n*3:=by unfold kM;rw[qP];simp;omega
theorem Wg (e:El) {n k m:Nat} (h:k+m≤n):splice (kM e n k) (k*3) (jA (List.replicate m e))=kM e n (k+m):=by
 unfold splice kM;rw[zF,List.take_left' (by rw[qP];simp),qP,Qa8]
 have hz:List.replicate (n-k) kf=List.replicate m kf++List.replicate (n-(k+m)) kf:=by rw[Qbu];congr 1;omega
 rw[hz,zF,←QaV (jA _) (jA _) (jA _),List.drop_left' (by rw[Qaf,qP,qP];simp),←zF,←zF]
 congr 1
 rw[←QaV,Qbu]
theorem ZG (w:World) (e:El) (n:Nat) (hn:n≤1000000):(Instr.makeSlice 72 (.int .i64 (n:Int)) (.int .i64 (n:Int))).run Tryz.prog w = .ok (.slice (some ⟨w.heap.size,0,none⟩) n n) (w.alloc (.cells (kM e n 0).toArray 69)):=by
 obtain⟨i,hi,hz,hs,hb⟩:=info_parts Qv;have:=run_makeSlice (P:=Tryz.prog) (w:=w) 72 69 i yN Tryz.underlying72 hi hz .i64 .i64 (n:Int) (n:Int) (by omega) (by omega) (by rw[hs];simp;omega) (by rw[hb];omega) (by omega);rw[this,hs]
 have e1:madeCells yN.cells ((n:Int).toNat*3)=(kM e n 0).toArray:=by
  rw[Qcl];apply Array.toList_inj.1
  show (madeCells #[Value.bool false,.slice none 0 0,.slice none 0 0] (n*3)).toList=_
  rw[WU];simp[kM]
 rw[e1];simp
theorem AF:(Tryz.prog.info? 72).map (fun i=>(i.zero,i.size,i.bytes))=some (some (.slice none 0 0),1,24):=by kernel_rfl
theorem W7 (w:World) (n:Nat) (hn:n≤1000000):(Instr.makeSlice 63 (.int .i64 (n:Int)) (.int .i64 (n:Int))).run Tryz.prog w = .ok (.slice (some ⟨w.heap.size,0,none⟩) n n) (w.alloc (.cells (List.replicate n jn).toArray 72)):=by
 have:=run_make_row' (P:=Tryz.prog) 63 72 jn 24 Tryz.underlying63 AF rfl .i64 .i64 n (by omega) (by omega) w;rw[JG] at this;exact this
structure xn (w wr:World) (g n:Nat) (M:List (List Rat)) (k:Nat) (R:List js):Prop where
 own:ja wr g 72 (R.map (jV n)++List.replicate (M.length-k) jn)
 rows:∀r∈R,(∃es,jq wr r.1 es r.2.2)∧r.2.2.length=n∧n≤r.2.1∧r.2.1≤9223372036854775807
 new:∀r∈R,w.heap.size≤r.1
 apart:(R.map (·.1)).Nodup
 vals:jv R=M.take k
theorem xn.start (w:World) (M:List (List Rat)) (n:Nat):xn w (w.alloc (.cells (List.replicate M.length jn).toArray 72)) w.heap.size n M 0 []:=
 ⟨by simpa using ja.make w 72 (List.replicate M.length jn),by simp,by simp,by simp,rfl⟩
theorem xn.len {w wr:World} {g n:Nat} {M:List (List Rat)} {k:Nat} {R:List js} (h:xn w wr g n M k R) (hk:k≤M.length):R.length=k:=by
 have:=congrArg List.length h.vals;rw[yd] at this;simp at this;omega
theorem xn.step {w wr w1:World} {g n gn cn:Nat} {M:List (List Rat)} {k:Nat} {R:List js} {r:List Rat} {es:List El} (h:xn w wr g n M k R) (hk:M[k]? =some r) (hl:r.length=n) (hn:n≤cn) (hcn:cn≤9223372036854775807) (hb:Below wr.heap.size wr w1) (hg:wr.heap.size≤gn) (hgn:w.heap.size≤gn) (hO:jq w1 gn es r):
  xn w (w1.setCell ⟨g,k,none⟩ (.slice (some ⟨gn,0,none⟩) n cn)) g n M (k+1) (R++[(gn,cn,r)]):=by
 have hkl:k<M.length:=(List.getElem?_eq_some_iff.1 hk).1;have hR:=h.len (by omega);have hglt:=h.own.lt;have hO1:=h.own.below hb hglt;have hBt:jk g w1 (w1.setCell ⟨g,k,none⟩ (.slice (some ⟨gn,0,none⟩) n cn)):=(jk.refl g w1).setCell ⟨g,k,none⟩ rfl _
 have hno:∀c∈R.map (jV n)++List.replicate (M.length-k) jn,ko c:=by
  intro c hc;rcases List.mem_append.1 hc with hc | hc
  ·exact Uv n R c hc
  ·rw[QaU hc];exact jr _ _ _
 have hK:=kv.but hBt hO1 hno
 have hne:∀(b:Nat) (es:List El) (q:List Rat),jq w1 b es q→b≠g:=fun b es q hq e=>by
  have h1:=hq.own;unfold ja at h1 hO1;rw[e] at h1;rw[hO1] at h1
  injection h1 with h1
  injection h1 with _ h1
  exact absurd h1 (by decide)
 refine⟨?_,?_,?_,?_,?_⟩
 ·have:=hO1.put k (.slice (some ⟨gn,0,none⟩) n cn)
  rw[QbN _ _ (by simp[hR]),show M.length-k=(M.length-(k+1))+1 by omega,Qa6,Qar,hR,QbE,Qaq] at this;rw[QaQ,QaV];exact this
 ·intro x hx
  rcases List.mem_append.1 hx with hx | hx
  ·have:=h.rows x hx
   obtain⟨es',he⟩:=this.1;have he1:=he.below hb;exact⟨⟨es',he1.keeps hK (hBt.block _ he1.own.lt (hne _ _ _ he1))⟩,this.2⟩
  ·obtain rfl:=List.mem_singleton.1 hx
   exact⟨⟨es,hO.keeps hK (hBt.block _ hO.own.lt (hne _ _ _ hO))⟩,hl,hn,hcn⟩
 ·intro x hx
  rcases List.mem_append.1 hx with hx | hx
  ·exact h.new x hx
  ·obtain rfl:=List.mem_singleton.1 hx;exact hgn
 ·rw[QaQ,List.nodup_append]
  refine⟨h.apart,by simp,fun a ha b hb'=> ?_⟩;obtain⟨x,hx,rfl⟩:=List.mem_map.1 ha;simp at hb';obtain⟨es',he⟩:=(h.rows x hx).1;have:=he.own.lt;omega
 ·unfold jv;rw[QaQ]
  have:=h.vals;unfold jv at this;rw[this,Qa5,hk];rfl
theorem xn.done {w wr:World} {g n:Nat} {M:List (List Rat)} {R:List js} (h:xn w wr g n M M.length R):j5 wr g R n∧jv R=M∧R.length=M.length:=
 ⟨⟨by have:=h.own;rw[QbE] at this;simpa using this,h.rows,h.apart⟩,by rw[h.vals,Qad (Nat.le_refl _)],h.len (Nat.le_refl _)⟩
theorem jO.toBelow {s:List Nat} {a b:World} {B:Nat} (h:jO s a b) (hs:∀k∈s,B≤k) (hB:B≤a.heap.size):Below B a b:=
 ⟨h.os,h.tape,h.output,h.size,fun k hk=>h.block k (by omega) (fun hm=>by have:=hs k hm;omega)⟩
