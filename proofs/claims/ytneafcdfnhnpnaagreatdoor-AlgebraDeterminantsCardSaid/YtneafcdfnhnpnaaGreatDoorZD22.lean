/- Contracts: cyclesOf, Sign. -/
import Derived.Test.YtneafcdfnhnpnaaGreatDoorZD21
set_option maxRecDepth 100000
set_option maxHeartbeats 4000000
namespace Go.Proofs.YtneafcdfnhnpnaaGreatDoor
open Go.RowKit Go.Lib Go.Shelf
attribute [local go_sem] Oper.semAt_some
theorem Yo (A:Option Addr) (n c:Nat) (w:World):Calls Tryz.prog 136 #[.slice A n c] w fun e w'=>e = .returned (.func (.func 191) #[] #[.pointer (some ⟨w.heap.size,0,none⟩)])∧w'=w.alloc (.cells #[.slice A n c] 50):=by
 go_enter Tryz.func136,Tryz.ntmps136
 go_wp2
 go_ret;exact⟨rfl,rfl⟩
def yi (cs:List (List Int)):Int:=cs.foldl (fun s c=>if c.length%2=0 then -s else s) 1
theorem FB (cs:List (List Int)) (c:List Int):yi (cs++[c])=if c.length%2=0 then -(yi cs) else yi cs:=by simp[yi]
theorem FA (cs:List (List Int)):yi cs=1∨yi cs = -1:=by
 have h:∀(cs:List (List Int)) (s:Int),(s=1∨s = -1)→(cs.foldl (fun s c=>if c.length%2=0 then -s else s) s=1∨cs.foldl (fun s c=>if c.length%2=0 then -s else s) s = -1):=by
  intro cs
  induction cs with
  | nil=>intro s hs;exact hs
  | cons c cs ih=>intro s hs;rw[List.foldl_cons];refine ih _ ?_;split <;> omega
 exact h cs 1 (.inl rfl)
theorem x6.ofSl {w:World} {p:List Int} {A:Option Addr} {c Bp:Nat} (h:Sl w 1 (.slice A p.length c) (je p)) (hB:Bp<w.heap.size):∃b0 off,x6 p A b0 off w∧(b0=Bp∨p≠[]):=by
 by_cases hp:p=[]
 ·exact⟨Bp,0,⟨hB,fun j u hu=>by subst hp;simp[je] at hu⟩,.inl rfl⟩
 ·obtain⟨b,off,hA,hb,hc⟩:=h.at_ (k:=0) (by rw[kx];exact List.length_pos_iff.2 hp)
  refine⟨b,off,⟨hb,fun j u hu=>⟨hA,?_⟩⟩,.inr hp⟩;obtain⟨hj,_⟩:=List.getElem?_eq_some_iff.1 hu;exact(hc j hj).trans hu
theorem UM {p:List Int} {pre post:List (List Int)} {x:List Int} (h:qI p=pre++x::post):p≠[]:=by
 rintro rfl;have:qI []=[]:=rfl;rw[this] at h;simp at h
theorem ja.putObjQ {w:World} {g l:Nat} {t:TypeId} {cs:List Value} (h:ja w g t cs) (hl:g≠l) (o:Obj):ja (w.putObj l o) g t cs:=(World.putObj_heap_other hl).trans h
theorem Below.putObjQ {B l:Nat} {a w:World} (h:Below B a w) (hl:B≤l) (o:Obj):Below B a (w.putObj l o):=
 ⟨h.os,h.tape,h.output,by have:=h.size;simpa [World.putObj] using this,fun k hk=>(World.putObj_heap_other (by omega)).trans (h.block k hk)⟩
theorem xR.putObjQ (Bp b0 sb l:Nat) (w:World) (o:Obj) (h1:sb≠l) (h2:Bp≠l) (h3:b0≠l):xR Bp b0 sb w (w.putObj l o):=
 ⟨by simp[World.putObj],World.putObj_heap_other h1,World.putObj_heap_other h2,World.putObj_heap_other h3⟩
theorem Jj.putObjQ {sb l:Nat} {x:List Int} {v:Value} {w:World} (h:Jj sb x v w) (hl:l<sb) (o:Obj):Jj sb x v (w.putObj l o):=by
 obtain⟨base,h1,h2,h3,h4⟩:=h;exact⟨base,h1,by simpa [World.putObj] using h2,xa h3 (fun k _ e=>World.putObj_heap_other (by have:=(h3.lt k e).1;omega)),h4⟩
def FC (p:List Int) (w:World) (e:Ending) (w':World):Prop:=
 e = .returned (.tuple #[.int .i64 (if kh p=0 then yi (qI p) else 0),.int .i64 (kh p)])∧Below w.heap.size w w'
theorem Eh (v:Value) (p:List Int) (w:World) (hv:Sl w 1 v (je p)):Calls Tryz.prog 50 #[v] w (FC p w):=by
 obtain⟨A,c,rfl,hc1,hc2⟩:=hv.form;simp only[kx] at hc1 hv ⊢;have CP:=hid (fun W h=>Qs (.slice A p.length c) p W h);by_cases he:kh p=0
 ·have hPp:yw p∧p.length≤256:=by unfold kh at he;split at he;omega;split at he;exact⟨by assumption,by omega⟩;omega
  have HV:=hid hv;have He:=hid he;obtain⟨hP,hl⟩:=hPp;have HP:=hid hP;clear hv he hP;refine(callsIn_wide (n:=4)).1 ?_;refine callsIn_of_wp_marks Tryz.func50 rfl trivial ?_ rfl;simp only[Tryz.ntmps50,List.size_toArray,List.length_cons,List.length_nil,Nat.reduceAdd,Nat.reduceSub,Array.replicate_succ,Array.replicate_zero,List.push_toArray,List.append_toArray,List.nil_append,List.cons_append]
  gi_wp2_with (first | (refine⟨trivial,?_⟩;gi_at_call 45;refine(callsIn_wide.2 (CP.out _ HV.out)).mono ?_;rintro e w1 ⟨rfl,hB1⟩;rw[He.out]) | (refine⟨trivial,?_⟩;gi_at_call 136;refine(callsIn_wide.2 (Yo _ _ _ _)).mono ?_;rintro e w2 ⟨rfl,rfl⟩))
  have hn1:=hB1.size;have hal:Below w1.heap.size w1 ((w1.alloc (.cells #[.int .i64 1] 3)).alloc (.cells #[.slice A p.length c] 50)):=((Below.refl _ w1).alloc (Nat.le_refl _) _).alloc (by simp) _;have hOs:=(ja.make w1 3 [.int .i64 1]).alloc (.cells #[.slice A p.length c] 50);have hOb:=ja.make (w1.alloc (.cells #[.int .i64 1] 3)) 50 [.slice A p.length c];simp only[World.size_alloc] at hOb;have hsl:=(HV.out.below hB1).below hal;have hBw:=hB1.trans (hal.mono hn1)
  have hsz:((w1.alloc (.cells #[.int .i64 1] 3)).alloc (.cells #[.slice A p.length c] 50)).heap.size=w1.heap.size+2:=by simp
  obtain⟨w3,hw3⟩:∃w3,w3=(w1.alloc (.cells #[.int .i64 1] 3)).alloc (.cells #[.slice A p.length c] 50):=⟨_,rfl⟩
  rw[←hw3] at hal hOs hOb hsl hsz hBw ⊢;clear hw3;obtain⟨b0,off,hRd,hb0⟩:=x6.ofSl (Bp:=w1.heap.size+1) hsl (by omega)
  have hb0w:b0=w1.heap.size+1∨(p≠[]∧b0<w1.heap.size):=by
   rcases hb0 with h | h
   ·exact .inl h
   ·refine .inr ⟨h,?_⟩
    obtain⟨b,o,hA,hb,_⟩:=(HV.out.below hB1).at_ (k:=0) (by rw[kx];exact List.length_pos_iff.2 h);have h1:=(hRd.2 0 _ (kA p 0 (List.length_pos_iff.2 h))).1;rw[hA] at h1;cases h1;exact hb
  refine Zq (gf:=191) (lb:= #[.pointer (some ⟨w1.heap.size+1,0,none⟩)]) (xs:=qI p) (Pr:=Jj) (Kp:=xR (w1.heap.size+1) b0) rfl (enters_of Tryz.func191 (by kernel_rfl) rfl)
   (fun W hW hs=>Yp p A c (w1.heap.size+1) b0 off HP.out hl W ((hW.cell (p:=⟨w1.heap.size+1,0,none⟩) (by simp;omega)).trans (hOb.cell 0)) (by omega) (hRd.same hW.size (hW.block b0 (by rcases hb0w with h | h <;> omega)))) rfl
   (fun pre A=>ja A w1.heap.size 3 [.int .i64 (yi pre)]∧Below w.heap.size w A)
   (fun pre A A' h hb=>⟨h.1.but hb (by omega),h.2.trans (hb.toBelow (by omega) (Nat.le_trans (by have:=h.2.size;omega) (Nat.le_refl _)))⟩)
   (fun pre A l o h hl _=>⟨h.1.putObjQ (by omega) o,Below.putObjQ h.2 (by omega) o⟩)
   (fun A B C h k=>h.trans k) (fun A o hlt=>xR.putObjQ _ _ _ _ A o (by omega) (by omega) (by rcases hb0w with h | h <;> omega))
   (fun x v A o hlt h=>h.putObjQ (by omega) o)
   (fun o1 o2=>⟨(hOs.alloc _).alloc _,(hBw.alloc (by omega) _).alloc (by simp;omega) _⟩)
   (fun v=> { tmps:= #[.slice A p.length c,undef,.int .i64 0,.int .i64 0,.int .i64 0,.pointer (some ⟨w1.heap.size,0,none⟩),v,.slice A p.length c,.int .i64 0,.int .i64 0,.bool false,undef,.slice A p.length c,.func (.func 191) #[] #[.pointer (some ⟨w1.heap.size+1,0,none⟩)],v,undef,undef,undef,undef,undef,undef,undef],defers:=[] })
   ?assign ?body ?done
  case assign=>
   intro l v W K hK
   gi_wp2
   exact hK
  case body=>
   rintro l pre x post v A' hx ⟨hO,hB⟩ hlt ⟨base,hb1,hb2,hrow,hne⟩;obtain⟨A2,c2,rfl,_,_⟩:=j7 hrow;have hpe:=UM hx
   have hb0':b0≠w1.heap.size:=by
    rcases hb0w with h | h
    ·omega
    ·omega
   have hcl:A'.cell? ⟨w1.heap.size,0,none⟩=some (.int .i64 (yi pre)):=hO.cell 0;have hfr:=hO.free 0;have hst:=FB pre x;have hpm:=FA pre;have HO:=hid hO;have HB:=hid hB;clear hO hB hrow;generalize yi pre=s at *
   have hs1: -1≤s∧s≤1:=by omega
   clear hpm
   gi_wp2
   ·rename_i hev
    have hev':x.length%2=0:=by simp at hev;omega
    rw[if_pos hev'] at hst;refine⟨Below.heap_setCell _ _ _ _ (by simp;omega),Below.heap_setCell _ _ _ _ (by simp;omega),⟨by rw[hst];exact HO.out.put 0 _,HB.out.setCell (by simp;omega) _⟩,?_⟩;exact⟨by simp,Below.heap_setCell _ _ _ _ (by simp;omega),Below.heap_setCell _ _ _ _ (by simp),Below.heap_setCell _ _ _ _ hb0'⟩
   ·rename_i hev
    have hev':¬x.length%2=0:=by simp at hev;omega
    rw[if_neg hev'] at hst;exact⟨rfl,rfl,⟨by rw[hst];exact HO.out,HB.out⟩,Nat.le_refl _,rfl,rfl,rfl⟩
  case done=>
   rintro W ⟨hO,hB⟩ hD;have hcl:W.cell? ⟨w1.heap.size,0,none⟩=some (.int .i64 (yi (qI p))):=hO.cell 0;have HB:=hid hB;have HD:=hid hD;clear hB hD hO
   gi_wp2
   refine⟨by simp,.inl ⟨_,_,rfl,run_takeDeferred HD.out,?_⟩⟩;exact⟨_,results_tmp2 rfl _ _ _,by rw[if_pos He.out,He.out];rfl,Below.putObjQ HB.out (by omega) _⟩
 ·have hne:(kh p != 0)=true:=by simpa using he
  have He:=hid he;have HV:=hid hv;clear he hv;go_enter Tryz.func50,Tryz.ntmps50
  go_wp2_with fail
  refine(CP.out _ HV.out).mono ?_;rintro e w1 ⟨rfl,hB1⟩;have HB1:=hid hB1;clear hB1 CP;generalize hec:kh p=ec at *;have HEC:=hid hec;clear hec
  go_wp2
  go_ret2;exact⟨by rw[HEC.out,if_neg He.out];rfl,HB1.out⟩
end Go.Proofs.YtneafcdfnhnpnaaGreatDoor
namespace Go.Proofs.YtneafcdfnhnpnaaGreatDoor
open Go.RowKit Go.Lib
def zq (row col:Nat) (S:jz Rat):Prop:=
 (∀x∈jG (jX row S) S.cols.length,kv x) ∧
 ∀(i:Nat) (r:jr),(elDiv jd row col S)[i]? =some r→i≠S.cols.length→Qv col r.2.2 (jG (elDiv jd row col S) S.cols.length)
def qG (n:Nat):Nat→Nat→jz Rat→Prop
 | 0,_,_=>True
 | k+1,fr,S=>match kP jd S.rows S.cols.length (n-fr) fr with
  | none=>True
  | some (row,col)=>zq row col S∧qG n k (col+1) (jU jd row col S)
theorem qG.some {n k fr row col:Nat} {S:jz Rat} (h:qG n (k+1) fr S) (hp:kP jd S.rows S.cols.length (n-fr) fr=some (row,col)):zq row col S∧qG n k (col+1) (jU jd row col S):=by
 unfold qG at h;rw[hp] at h;exact h
theorem kr.trans {a b c:World} (h:kr a b) (k:kr b c):kr a c:=by
 refine⟨Nat.le_trans h.1 k.1,fun i hi=> ?_⟩;rcases h.2 i hi with e1 | e1
 ·rcases k.2 i (Nat.lt_of_lt_of_le hi h.1) with e2 | e2
  ·exact .inl (e2.trans e1)
  ·exact .inr fun cur e fr hh c hc=>e2 cur e fr (e1.trans hh) c hc
 ·exact .inr e1
theorem Wb {w:World} {base:Nat} {e:TypeId} {size:Nat} {v:Value} {n:Nat} {xs:List Value} (h:w.ownsRow base e size v n xs):km v:=by
 obtain⟨A,c,rfl,_⟩:=j7 h;exact jq _ _ _
theorem Zg {w:World} {base px:Nat} {t e:TypeId} {size n:Nat} {v:Value} {cs xs:List Value} (hO:ja w px t cs) (h:w.ownsRow base e size v n xs) (hte:t≠e):v.ownBlock≠some px:=by
 intro hv
 rcases h.2 with ⟨rfl,_⟩ | ⟨g,cap,cur,rfl,_,hg,_⟩
 ·simp[Value.ownBlock] at hv
 ·simp[Value.ownBlock] at hv
  subst hv;unfold ja at hO;rw[hO] at hg
  injection hg with hg
  injection hg with _ hg
  exact hte hg
theorem Qa {B B':Nat} {a:World} {e e':TypeId} {s s':Nat} {v v':Value} {n n':Nat} {xs xs':List Value} (h:a.ownsRow B e s v n xs) (h':a.ownsRow B' e' s' v' n' xs') (hee:e≠e') (k:Nat) (hk:v.ownBlock=some k):v'.ownBlock≠some k:=by
 intro hk'
 rcases h.2 with ⟨rfl,_⟩ | ⟨g,cap,cur,rfl,_,hg,_⟩
 ·simp[Value.ownBlock] at hk
 ·rcases h'.2 with ⟨rfl,_⟩ | ⟨g',cap',cur',rfl,_,hg',_⟩
  ·simp[Value.ownBlock] at hk'
  ·simp[Value.ownBlock] at hk hk'
   subst hk hk';rw[hg] at hg'
   injection hg' with hg'
   injection hg' with _ hg'
   exact hee hg'
theorem U4 (es:List El) (e:El):jw (es++[e])=jw es++Js e:=by
 induction es with
 | nil=>rfl
 | cons a t ih=>simp only[List.cons_append,jw,ih]
structure zm (n g:Nat) (R:List jr) (w wr:World) (S:jz Rat) (fr:Nat) (cv pv:Value):Prop where
 mx:j8 wr g S.rows n
 out:ja wr w.heap.size 169 [jm,jm,jm,.bool false]
 res:ja wr (w.heap.size+1) 169 [jm,cv,pv,.bool S.odd]
 cown:wr.ownsRow (w.heap.size+2) 3 1 cv S.cols.length (jo S.cols)
 cin:ks wr kt cv
 pown:kI wr (w.heap.size+2) pv S.piv
 same:S.piv.length=S.cols.length
 len:S.rows.length=R.length
 perm:List.Perm (S.rows.map (·.1)) (R.map (·.1))
 hfr:fr≤n
 go:jH jd n (R.length-S.cols.length) fr S=jH jd n R.length 0 ⟨R,[],[],false⟩
 ok:qG n (R.length-S.cols.length) fr S
 buts:jL (g::R.map (·.1)) w wr
def Q0 (n g c:Nat) (R:List jr) (w:World) (e:Ending) (w':World):Prop:=
 ∃S,S=jH jd n R.length 0 ⟨R,[],[],false⟩ ∧ ∃cv pv,e = .returned (.agg #[.slice (some ⟨g,0,none⟩) S.piv.length c,cv,pv,.bool S.odd]) ∧
  j8 w' g S.rows n∧w'.ownsRow w.heap.size 3 1 cv S.cols.length (jo S.cols)∧kI w' w.heap.size pv S.piv ∧
  S.piv.length=S.cols.length∧S.piv.length≤S.rows.length∧S.rows.length=R.length∧List.Perm (S.rows.map (·.1)) (R.map (·.1))∧jL (g::R.map (·.1)) w w'
structure kz (n g:Nat) (R:List jr) (w wr:World) (C:List Nat) (V:List Rat) (Q:List jr) (odd:Bool) (cv pv:Value):Prop where
 mx:j8 wr g Q n
 out:ja wr w.heap.size 169 [jm,jm,jm,.bool false]
 res:ja wr (w.heap.size+1) 169 [jm,cv,pv,.bool odd]
 cown:wr.ownsRow (w.heap.size+2) 3 1 cv C.length (jo C)
 cin:ks wr kt cv
 pown:kI wr (w.heap.size+2) pv V
 len:Q.length=R.length
 perm:List.Perm (Q.map (·.1)) (R.map (·.1))
 lt:∀k,k=g∨k∈R.map (·.1)→k<w.heap.size
 buts:jL (g::R.map (·.1)) w wr
section
variable {n g:Nat} {R Q:List jr} {w w1 w2:World} {S:jz Rat} {C:List Nat} {V:List Rat} {fr i:Nat} {odd:Bool} {cv pv:Value}
theorem Xr {R:List jr} {i j:Nat} :jd.isZ (jI jd R i j)=decide (kD R i j=0):=rfl
theorem kI.noInt {base:Nat} {v:Value} {V:List Rat} (h:kI w base v V):km v:=by
 obtain⟨es,h1,_⟩:=h;exact Wb h1
theorem kI.below {base:Nat} {v:Value} {V:List Rat} (h:kI w base v V) (hb:Below w.heap.size w w1):kI w1 base v V:=
 h.keep (kr.below hb) fun k hk=>hb.block k (h.lt k hk).2
theorem qO {e:TypeId} {size base m:Nat} {xs:List Value} (h:ks w kt cv) (ho:w.ownsRow base e size cv m xs) (hb:Below w.heap.size w w1):ks w1 kt cv:=
 h.same fun k hk=>hb.block k (ho.lt k hk).2
theorem zm.below (h:zm n g R w w1 S fr cv pv) (hb:Below w1.heap.size w1 w2):zm n g R w w2 S fr cv pv:=
 ⟨h.mx.below hb,h.out.below hb h.out.lt,h.res.below hb h.res.lt,kB h.cown hb,qO h.cin h.cown hb,h.pown.below hb,h.same,h.len,h.perm,h.hfr,h.go,h.ok,h.buts.below hb⟩
theorem zm.mid (HM:j8 w g R n) (h:zm n g R w w1 S fr cv pv):kz n g R w w1 S.cols S.piv S.rows S.odd cv pv:=
 ⟨h.mx,h.out,h.res,h.cown,h.cin,h.pown,h.len,h.perm,fun _ hk=>HM.lt hk,h.buts⟩
theorem kz.below (h:kz n g R w w1 C V Q odd cv pv) (hb:Below w1.heap.size w1 w2):kz n g R w w2 C V Q odd cv pv:=
 ⟨h.mx.below hb,h.out.below hb h.out.lt,h.res.below hb h.res.lt,kB h.cown hb,qO h.cin h.cown hb,h.pown.below hb,h.len,h.perm,h.lt,h.buts.below hb⟩
theorem kz.drew (h:kz n g R w w1 C V Q odd cv pv):kz n g R w w1.drew C V Q odd cv pv:=h.below ((Below.refl _ _).drew)
theorem kz.resNo (h:kz n g R w w1 C V Q odd cv pv):∀c∈[jm,cv,pv,.bool odd],km c:=by
 intro c hc;simp only[List.mem_cons,List.not_mem_nil,or_false] at hc;rcases hc with rfl | rfl | rfl | rfl
 ·exact jq _ _ _
 ·exact Wb h.cown
 ·exact h.pown.noInt
 ·exact js _
theorem kz.swap (h:kz n g R w w1 C V Q odd cv pv) {i j:Nat} {a b:jr} (hi:Q[i]? =some a) (hj:Q[j]? =some b):
  kz n g R w (((w1.setCell ⟨g,i,none⟩ (jZ n b)).setCell ⟨g,j,none⟩ (jZ n a)).drew) C V (j9 Q i j) odd cv pv:=by
 have hg:=h.lt g (.inl rfl)
 have hB:jh g w1 (((w1.setCell ⟨g,i,none⟩ (jZ n b)).setCell ⟨g,j,none⟩ (jZ n a)).drew):=by
  have:=((jh.refl g w1).setCell ⟨g,i,none⟩ rfl (jZ n b)).setCell ⟨g,j,none⟩ rfl (jZ n a);exact⟨this.os,this.tape,this.output,this.size,this.block⟩
 have hK:=kr.but hB h.mx.own (Zw n Q);refine⟨(h.mx.swap hi hj).below ((Below.refl _ _).drew),h.out.but hB (by omega),h.res.but hB (by omega),K5 h.cown hB (by omega),h.cin.same (fun k hk=>hB.block k (h.cown.lt k hk).2 (by have:=(h.cown.lt k hk).1;omega)),h.pown.keep hK (fun k hk=>hB.block k (h.pown.lt k hk).2 (by have:=(h.pown.lt k hk).1;omega)),by rw[Kk,h.len],((Km Q i j).map _).trans h.perm,h.lt,h.buts.but hB (by simp)⟩
theorem kz.setOdd (h:kz n g R w w1 C V Q odd cv pv) (b:Bool):kz n g R w (w1.setCell ⟨w.heap.size+1,3,none⟩ (.bool b)) C V Q b cv pv:=by
 have hB:jh (w.heap.size+1) w1 (w1.setCell ⟨w.heap.size+1,3,none⟩ (.bool b)):=(jh.refl _ w1).setCell ⟨w.heap.size+1,3,none⟩ rfl (.bool b);have hK:=kr.but hB h.res h.resNo;refine⟨h.mx.keep hK (fun k hk=>hB.block k (h.mx.lt hk) (by have:=h.lt k (hk.imp id fun x=>h.perm.mem_iff.1 x);omega)),h.out.but hB (by omega),?_,K5 h.cown hB (by omega),h.cin.same (fun k hk=>hB.block k (h.cown.lt k hk).2 (by have:=(h.cown.lt k hk).1;omega)),h.pown.keep hK (fun k hk=>hB.block k (h.pown.lt k hk).2 (by have:=(h.pown.lt k hk).1;omega)),h.len,h.perm,h.lt,h.buts.setNew _ (by simp) _⟩;exact h.res.put 3 (.bool b)
theorem kz.setRow (h:kz n g R w w1 C V Q odd cv pv) {r:jr} (hr:Q[i]? =some r) {L:List Rat} (hO:∃es,jp w2 r.1 es L) (hl:L.length=n) (hb:jh r.1 w1 w2):
  kz n g R w w2 C V (setRow Q i L) odd cv pv:=by
 have hrb:r.1∈R.map (·.1):=h.perm.mem_iff.1 (List.mem_map_of_mem (List.mem_of_getElem? hr));have hlt:=h.lt r.1 (.inr hrb);obtain⟨es0,he0⟩:=(h.mx.row r (List.mem_of_getElem? hr)).1;have hK:=kr.but hb he0.own he0.noInt;exact⟨h.mx.setRow hr hO hl hb,h.out.but hb (by omega),h.res.but hb (by omega),K5 h.cown hb (by omega),h.cin.same (fun k hk=>hb.block k (h.cown.lt k hk).2 (by have:=(h.cown.lt k hk).1;omega)),h.pown.keep hK (fun k hk=>hb.block k (h.pown.lt k hk).2 (by have:=(h.pown.lt k hk).1;omega)),by rw[JE];exact h.len,by rw[JD];exact h.perm,h.lt,h.buts.but hb (List.mem_cons_of_mem _ hrb)⟩
theorem jp.rowKeep {px:Nat} {e:El} {x:Rat} (hp:jp w1 px [e] [x]) (hlt:w.heap.size≤px) (h:kz n g R w w1 C V Q odd cv pv) {r:jr} (hr:Q[i]? =some r) (hb:jh r.1 w1 w2):jp w2 px [e] [x]:=by
 have hrb:r.1∈R.map (·.1):=h.perm.mem_iff.1 (List.mem_map_of_mem (List.mem_of_getElem? hr));have:=h.lt r.1 (.inr hrb);obtain⟨es0,he0⟩:=(h.mx.row r (List.mem_of_getElem? hr)).1;exact hp.keeps (kr.but hb he0.own he0.noInt) (hb.block px hp.own.lt (by omega))
theorem kz.addCol (h:kz n g R w w1 C V Q odd cv pv) {o:Obj} {v5:Value} {j:Nat} (hown:w2.ownsRow (w.heap.size+2) 3 1 v5 (C.length+1) (jo C++[.int .i64 (j:Int)])) (hall:ks w2 kt v5) (hg:(w1.alloc o).grownBy w2 cv.ownBlock):
  ja w2 (w.heap.size+1) 169 [jm,cv,pv,.bool odd]∧kz n g R w (w2.setCell ⟨w.heap.size+1,1,none⟩ v5) (C++[j]) V Q odd v5 pv ∧
  (∀(px:Nat) (e:El) (x:Rat),w.heap.size+2≤px→jp w1 px [e] [x]→jp (w2.setCell ⟨w.heap.size+1,1,none⟩ v5) px [e] [x]):=by
 have ha:Below w1.heap.size w1 (w1.alloc o):=(Below.refl _ _).alloc (Nat.le_refl _) _;have hm:=h.below ha
 have hcv:∀k,cv.ownBlock=some k→w.heap.size+2≤k:=fun k hk=>(hm.cown.lt k hk).1
 have hX:=hm.res.grown hg (fun e=>by have:=hcv _ e;omega);have hlt:=h.lt;have hK1:=kr.grown hg hm.cown hm.cin;have hB:jh (w.heap.size+1) w2 (w2.setCell ⟨w.heap.size+1,1,none⟩ v5):=(jh.refl _ w2).setCell ⟨w.heap.size+1,1,none⟩ rfl v5;have hK2:=kr.but hB hX hm.resNo;have hK:=hK1.trans hK2;have hsz:=hg.size
 have hbl:∀k,k<(w1.alloc o).heap.size→k≠w.heap.size+1→cv.ownBlock≠some k→(w2.setCell ⟨w.heap.size+1,1,none⟩ v5).heap[k]? =(w1.alloc o).heap[k]? :=fun k h1 h2 h3=>
  (hB.block k (by omega) h2).trans (hg.block k h1 (fun e=>h3 e.symm))
 refine⟨hX,⟨hm.mx.keep hK (fun k hk=> ?_),?_,hX.put 1 v5,?_,hall.same (fun k hk=>hB.block k (hown.lt k hk).2 (by have:=(hown.lt k hk).1;omega)),?_,h.len,h.perm,h.lt,(hm.buts.grown hg (fun k hk=>by have:=hcv k hk;omega)).setNew _ (by simp) _⟩,fun px e x hpx hq=> ?_⟩
 ·have hk':=h.lt k (hk.imp id fun x=>h.perm.mem_iff.1 x)
  exact hbl k (hm.mx.lt hk) (by omega) (fun e=>by have:=hcv k e;omega)
 ·exact(hbl _ hm.out.lt (by omega) (fun e=>by have:=hcv _ e;omega)).trans hm.out
 ·rw[xX,List.length_append]
  exact xy hown ⟨w.heap.size+1,1,none⟩ (by simp) _
 ·refine hm.pown.keep hK fun k hk=>hbl k (hm.pown.lt k hk).2 (by have:=(hm.pown.lt k hk).1;omega) ?_
  obtain⟨es,hp,_⟩:=hm.pown;exact Qa hp hm.cown (by decide) k hk
 ·have hq2:=hq.below ha
  exact hq2.keeps hK (hbl px hq2.own.lt (by omega) (Zg hq2.own hm.cown (by decide)))
theorem kz.addPiv (h:kz n g R w w1 C V Q odd cv pv) {es:List El} (ho:w1.ownsRow (w.heap.size+2) 122 3 pv V.length (jw es)) (hl:es.length=V.length) (ha0:ks w1 kt pv) (hr:∀(i:Nat) (e:El) (q:Rat),es[i]? =some e→V[i]? =some q→Rt w1 (k8 e) q)
  {o:Obj} {v5:Value} {e:El} {x:Rat} (hx:Rt w1 (k8 e) x) (hown:w2.ownsRow (w.heap.size+2) 122 3 v5 (V.length+1) (jw es++Js e)) (hall:ks w2 kt v5) (hg:(w1.alloc o).grownBy w2 pv.ownBlock):
  ja w2 (w.heap.size+1) 169 [jm,cv,pv,.bool odd]∧kz n g R w (w2.setCell ⟨w.heap.size+1,2,none⟩ v5) C (V++[x]) Q odd cv v5:=by
 have ha:Below w1.heap.size w1 (w1.alloc o):=(Below.refl _ _).alloc (Nat.le_refl _) _;have hm:=h.below ha
 have hcv:∀k,pv.ownBlock=some k→w.heap.size+2≤k:=fun k hk=>(hm.pown.lt k hk).1
 have hX:=hm.res.grown hg (fun e=>by have:=hcv _ e;omega);have hlt:=h.lt;have hK1:=kr.grown hg (kB ho ha) (qO ha0 ho ha);have hB:jh (w.heap.size+1) w2 (w2.setCell ⟨w.heap.size+1,2,none⟩ v5):=(jh.refl _ w2).setCell ⟨w.heap.size+1,2,none⟩ rfl v5;have hK2:=kr.but hB hX hm.resNo;have hK:=hK1.trans hK2;have hsz:=hg.size
 have hbl:∀k,k<(w1.alloc o).heap.size→k≠w.heap.size+1→pv.ownBlock≠some k→(w2.setCell ⟨w.heap.size+1,2,none⟩ v5).heap[k]? =(w1.alloc o).heap[k]? :=fun k h1 h2 h3=>
  (hB.block k (by omega) h2).trans (hg.block k h1 (fun e=>h3 e.symm))
 have hcp:∀k,cv.ownBlock=some k→pv.ownBlock≠some k:=fun k hk=>Qa h.cown ho (by decide) k hk
 refine⟨hX,⟨hm.mx.keep hK (fun k hk=> ?_),?_,hX.put 2 v5,?_,?_,?_,h.len,h.perm,h.lt,(hm.buts.grown hg (fun k hk=>by have:=hcv k hk;omega)).setNew _ (by simp) _⟩⟩
 ·have hk':=h.lt k (hk.imp id fun x=>h.perm.mem_iff.1 x)
  exact hbl k (hm.mx.lt hk) (by omega) (fun e=>by have:=hcv k e;omega)
 ·exact(hbl _ hm.out.lt (by omega) (fun e=>by have:=hcv _ e;omega)).trans hm.out
 ·exact xa hm.cown fun k hk hv=>hbl k hk (by have:=(hm.cown.lt k hv).1;omega) (hcp k hv)
 ·exact hm.cin.same fun k hv=>hbl k (hm.cown.lt k hv).2 (by have:=(hm.cown.lt k hv).1;omega) (hcp k hv)
 ·refine⟨es++[e],?_,by simp[hl],hall.same (fun k hk=>hB.block k (hown.lt k hk).2 (by have:=(hown.lt k hk).1;omega)),fun i e' q he hq=> ?_⟩
  ·rw[U4,List.length_append]
   exact xy hown ⟨w.heap.size+1,2,none⟩ (by simp) _
  ·rcases Nat.lt_or_ge i es.length with hi | hi
   ·rw[List.getElem?_append_left hi] at he
    rw[List.getElem?_append_left (by omega)] at hq;exact((hr i e' q he hq).below ha).keeps hK
   ·rw[List.getElem?_append_right hi] at he
    rw[List.getElem?_append_right (by omega)] at hq;rw[←hl] at hq
    have h0:i-es.length=0:=by
     rcases Nat.eq_zero_or_pos (i-es.length) with h0 | h0
     ·exact h0
     ·rw[List.getElem?_eq_none (by simp;omega)] at he;cases he
    rw[h0] at he hq;simp at he hq;subst he hq;exact(hx.below ha).keeps hK
theorem kz.inv {wf:World} {i j:Nat} {Q':List jr} {x:Rat} (h:kz n g R w wf (S.cols++[j]) (S.piv++[x]) Q' odd cv pv) (hS:jU jd i j S=⟨Q',S.cols++[j],S.piv++[x],odd⟩) (hs:S.piv.length=S.cols.length) (hj:j<n) (hl:S.cols.length<R.length)
  (hp:kP jd S.rows S.cols.length (n-fr) fr=some (i,j)) (hgo:jH jd n (R.length-S.cols.length) fr S=jH jd n R.length 0 ⟨R,[],[],false⟩) (hok:qG n (R.length-S.cols.length) fr S):zm n g R w wf (jU jd i j S) (j+1) cv pv:=by
 have hgo':jH jd n (R.length-(S.cols++[j]).length) (j+1) (jU jd i j S)=jH jd n R.length 0 ⟨R,[],[],false⟩:=by
  rw[←hgo,show R.length-S.cols.length=(R.length-(S.cols++[j]).length)+1 by simp;omega,YD hp]
 have hok':qG n (R.length-(S.cols++[j]).length) (j+1) (jU jd i j S):=by
  rw[show R.length-S.cols.length=(R.length-(S.cols++[j]).length)+1 by simp;omega] at hok;exact(hok.some hp).2
 rw[hS] at hgo' hok' ⊢;exact⟨h.mx,h.out,h.res,h.cown,h.cin,h.pown,by simp[hs],h.len,h.perm,hj,hgo',hok',h.buts⟩
end
theorem U8 {n g c:Nat} {R:List jr} {w wr wf:World} {S:jz Rat} {fr:Nat} {cv pv:Value} {e:Ending} (HM:j8 w g R n) (hE:zm n g R w wr S fr cv pv) (hS:S.cols.length≤R.length)
  (hgo:S=jH jd n R.length 0 ⟨R,[],[],false⟩) (hB:Below w.heap.size wr wf) (h2:∀k,k≠w.heap.size→k≠w.heap.size+1→wf.heap[k]? =wr.heap[k]?) (he:e = .returned (.agg #[.slice (some ⟨g,0,none⟩) S.piv.length c,cv,pv,.bool S.odd])):Q0 n g c R w e wf:=by
 have hlt:∀k,k=g∨k∈S.rows.map (·.1)→k<w.heap.size:=fun k hk=>HM.lt (hk.imp id fun h=>hE.perm.mem_iff.1 h)
 have hM:=hE.mid HM
 have hK:kr wr wf:=by
  refine⟨hB.size,fun b hb=> ?_⟩;by_cases h0:b=w.heap.size
  ·subst h0
   refine .inr fun cur e fr hh x hx=> ?_
   have:=hE.out;unfold ja at this;rw[this] at hh
   injection hh with hh
   injection hh with hh _ _
   subst hh;simp at hx;rcases hx with rfl | rfl
   ·exact(jq _ _ _).noU
   ·exact(js _).noU
  ·by_cases h1:b=w.heap.size+1
   ·subst h1
    refine .inr fun cur e fr hh x hx=> ?_
    have:=hE.res;unfold ja at this;rw[this] at hh
    injection hh with hh
    injection hh with hh _ _
    subst hh;exact(hM.resNo x (by simpa using hx)).noU
   ·exact .inl (h2 b h0 h1)
 refine⟨S,hgo,cv,pv,he,hE.mx.keep hK (fun k hk=>hB.block k (hlt k hk)),?_,?_,hE.same,?_,hE.len,hE.perm,hE.buts.belowAt hB⟩
 ·exact zd (xa hE.cown fun k _ hv=>h2 k (by have:=(hE.cown.lt k hv).1;omega) (by have:=(hE.cown.lt k hv).1;omega)) (by omega)
 ·have hp:=hE.pown.keep hK (fun k hv=>h2 k (by have:=(hE.pown.lt k hv).1;omega) (by have:=(hE.pown.lt k hv).1;omega))
  obtain⟨es,h1,h2,h3,h4⟩:=hp;exact⟨es,zd h1 (by omega),h2,h3,h4⟩
 ·rw[hE.same,hE.len];exact hS
abbrev B9:Nat:=1000000000
def jb:List Nat→Nat
 | []=>0
 | x::r=>x+B9*jb r
def jF (ws:List Nat):Prop:=∀x∈ws,x<B9
theorem JY:jF []:=fun x hx=>by simp at hx
theorem JX {a b:List Nat} :jF (a++b)↔jF a∧jF b:=by
 unfold jF;simp only[List.mem_append];exact⟨fun h=>⟨fun x hx=>h x (.inl hx),fun x hx=>h x (.inr hx)⟩,fun h x hx=>hx.elim (h.1 x) (h.2 x)⟩
theorem Jm {x:Nat} :jF [x]↔x<B9:=by unfold jF;simp
theorem zQ {ws:List Nat} (h:jF ws) (k:Nat):jF (ws.take k):=fun x hx=>h x (List.mem_of_mem_take hx)
theorem kJ {ws:List Nat} (h:jF ws) (k:Nat):ws[k]?.getD 0<B9:=by
 rcases Nat.lt_or_ge k ws.length with hk | hk
 ·rw[List.getElem?_eq_getElem hk];exact h _ (List.getElem_mem hk)
 ·rw[List.getElem?_eq_none hk];decide
theorem JZ (a b:List Nat):jb (a++b)=jb a+B9^a.length*jb b:=by
 induction a with
 | nil=>simp[jb]
 | cons x r ih=>
  simp only[List.cons_append,jb,ih,List.length_cons,Nat.pow_succ];rw[Nat.mul_add,←Nat.mul_assoc,Nat.mul_comm B9 (_^_),Nat.add_assoc]
theorem zR (l:List Nat) (x:Nat):jb (l++[x])=jb l+B9^l.length*x:=by rw[JZ];simp[jb]
theorem Yb (ws:List Nat):jb (jE ws)=jb ws:=by
 refine JF (P:=fun ws=>jb (jE ws)=jb ws) rfl (fun l x ih=> ?_) ws;by_cases h:x=0
 ·subst h;rw[zJ,ih,JZ];simp[jb]
 ·rw[zI l x h]
theorem Uz {ws:List Nat} (h:jF ws):jF (jE ws):=by
 intro x hx;apply h;unfold jE at hx;rw[List.mem_reverse] at hx;exact List.mem_reverse.1 ((List.dropWhile_sublist _).mem hx)
theorem qB {ws:List Nat} (h:jF ws):jb ws<B9^ws.length:=by
 induction ws with
 | nil=>simp[jb]
 | cons x r ih=>
  have hx:=h x (by simp);have hr:=ih (fun y hy=>h y (by simp[hy]));simp only[jb,List.length_cons,Nat.pow_succ];have:B9*(jb r+1)≤B9*B9^r.length:=Nat.mul_le_mul_left _ hr;rw[Nat.mul_comm (_^_) B9];rw[Nat.mul_add,Nat.mul_one] at this;omega
theorem JW {ws:List Nat} (h:kn ws) (hne:ws≠[]):B9^(ws.length-1)≤jb ws:=by
 revert h hne;refine JF (P:=fun ws=>kn ws→ws≠[]→B9^(ws.length-1)≤jb ws) (fun _ h=>absurd rfl h) (fun l x _ h _=> ?_) ws;by_cases hx:x=0
 ·subst hx
  unfold kn at h;rw[zJ] at h;have:=JL l;rw[h] at this;simp at this;omega
 ·rw[zR]
  have:B9^l.length*1≤B9^l.length*x:=Nat.mul_le_mul_left _ (by omega)
  simp;omega
theorem Uw {ws:List Nat} (h:kn ws):jb ws=0↔ws=[]:=by
 constructor
 ·intro h0
  rcases List.eq_nil_or_concat ws with rfl | ⟨l,x,rfl⟩
  ·rfl
  ·have:=JW h (by simp)
   have hp:0<B9^((l.concat x).length-1):=Nat.pow_pos (by decide);omega
 ·rintro rfl;rfl
theorem kg (ws:List Nat):(jo ws).length=ws.length:=by simp[jo]
theorem qf (ws:List Nat) (k:Nat) (h:k<ws.length):(jo ws)[k]? =some (Value.int .i64 ((ws[k]?.getD 0:Nat):Int)):=by
 simp[jo,h]
theorem Y4 (ws:List Nat) (k:Nat):(jo ws).take k=jo (ws.take k):=by simp[jo]
theorem jB.take {w:World} {A:Option Addr} {n c k:Nat} {xs:List Value} (h:jB w (.slice A n c) xs) (hk:k≤xs.length):jB w (.slice A k c) (xs.take k):=by
 obtain⟨A',c',hv,h1,h2,h3⟩:=h
 obtain⟨rfl,rfl,rfl⟩:A=A'∧n=xs.length∧c=c':=by simpa using hv
 have hl:(xs.take k).length=k:=by rw[List.length_take];omega
 refine⟨A,c,by rw[hl],by omega,by omega,fun hn=> ?_⟩;obtain⟨b,off,hA,hb,hc⟩:=h3 (by omega);refine⟨b,off,hA,hb,fun j hj=> ?_⟩;rw[hc j (by omega),List.getElem?_take,if_pos (by omega)]
theorem XI (A:Option Addr) (c:Nat) (ws:List Nat) (w:World) (hv:jB w (.slice A ws.length c) (jo ws)):
  Calls Tryz.prog 226 #[.slice A ws.length c] w fun e w'=>e = .returned (.slice A (jE ws).length c)∧jB w (.slice A (jE ws).length c) (jo (jE ws))∧w=w':=by
 have hc:=hv.form;obtain⟨A0,c0,hv0,hc1,hc2⟩:=hc;rw[kg] at hc1 hc2 hv0
 obtain⟨rfl,rfl⟩:A=A0∧c=c0:=by simpa using hv0
 clear hv0;go_enter Tryz.func226,Tryz.ntmps226
 go_wp2
 go_loopg [0] ws.length (fun g u wr=>∃k:Nat,u = .slice A k c∧k≤ws.length∧g=k∧Hid (jE (ws.take k)=jE ws)∧wr=w)
 case atStart=>exact⟨ws.length,rfl,by omega,rfl,hid (by simp),rfl⟩
 case round=>
  obtain⟨k,rfl,hk,rfl,hf,rfl⟩:=hrel;by_cases h0:0<gk
  ·obtain⟨j,rfl⟩:∃j,gk=j+1:=⟨gk-1,by omega⟩
   obtain⟨b,off,rfl,hb,hcell⟩:=hv.at_ (k:=j) (by rw[kg];omega);have hck:=hcell j (by rw[kg];omega);rw[qf ws j (by omega)] at hck;have Ht:=hid (yN ws j (by omega));generalize hx:ws[j]?.getD 0=x at hck Ht;clear hx hcell;by_cases hz:x=0
   ·subst hz
    have HS:Hid (jE (ws.take j)=jE ws):=hid (by rw[←hf.out,Ht.out,zJ]);clear hf Ht
    go_wp2
    go_roundg j
    case rel=>exact⟨j,rfl,by omega,rfl,HS,rfl⟩
    case measure=>omega
   ·have hz':(((x:Nat):Int)==0)=false:=by simpa using hz
    have hlen:jE ws=ws.take (j+1):=by rw[←hf.out,Ht.out,zI _ _ hz]
    have hsl:=hv.take (k:=j+1) (by rw[kg];omega);rw[Y4,←hlen] at hsl
    have hn:(jE ws).length=j+1:=by rw[hlen];simp;omega
    have Hn:=hid hn;clear hn;have HSL:=hid hsl;clear hlen hsl hf Ht hz
    go_wp2
    go_ret;refine⟨by rw[Hn.out];rfl,by rw[Hn.out];exact HSL.out,rfl⟩
  ·have:gk=0:=by omega
   subst this
   have hn:jE ws=[]:=by rw[←hf.out];rfl
   have Hn:=hid hn;clear hn;have HSL:=hid (hv.take (k:=0) (by omega));clear hf
   go_wp2
   go_ret;refine⟨by rw[Hn.out];rfl,by rw[Hn.out];exact HSL.out,rfl⟩
def Ri (w:World) (v:Value) (x:Int):Prop:=∃dv ws,v = .agg #[.bool (decide (x<0)),dv]∧jb ws=x.natAbs∧jF ws∧kn ws∧jB w dv (jo ws)
theorem Ri.below {w w':World} {v:Value} {x:Int} (h:Ri w v x) (hb:Below w.heap.size w w'):Ri w' v x:=by
 obtain⟨dv,ws,h1,h2,h3,h4,h5⟩:=h;exact⟨dv,ws,h1,h2,h3,h4,h5.below hb⟩
theorem Ki (neg:Bool) (n:Nat):(sg neg n).natAbs=n:=by unfold sg;split <;> simp
theorem GL (neg:Bool) (n:Nat):decide (sg neg n<0)=(neg&&decide (0<n)):=by
 unfold sg;cases neg
 ·simp
 ·simp
theorem LQ (ws:List Nat):jE ws=ws.take (jE ws).length:=by
 refine JF (P:=fun ws=>jE ws=ws.take (jE ws).length) rfl (fun l x ih=> ?_) ws;by_cases h:x=0
 ·subst h
  rw[zJ,List.take_append_of_le_length (JL l)];exact ih
 ·rw[zI l x h,List.take_of_length_le (Nat.le_refl _)]
theorem Wa (w:World) (t:TypeId) (a b:Value):(w.alloc (.cells #[a,b] t)).cell? ⟨w.heap.size,0,none⟩=some a∧(w.alloc (.cells #[a,b] t)).cell? ⟨w.heap.size,1,none⟩=some b:=by
 constructor <;> rw[World.cell?_alloc_at _ _ _ _ rfl] <;> rfl
def kQ (x:Int) (w:World) (e:Ending) (w':World):Prop:=∃v,e = .returned v∧Ri w' v x∧Below w.heap.size w w'
theorem xB (neg:Bool) (dv:Value) (ws:List Nat) (w:World) (hok:jF ws) (hv:jB w dv (jo ws)):
  Calls Tryz.prog 183 #[.bool neg,dv] w (kQ (sg neg (jb ws)) w):=by
 obtain⟨A,c,rfl,hc1,hc2⟩:=hv.form;rw[kg] at *;have HV:=hid hv;clear hv;have HOK:=hid hok;clear hok
 have HS:Hid (jB w (.slice A (jE ws).length c) (jo (jE ws))):=hid (by
  have h:=HV.out.take (k:=(jE ws).length) (by rw[kg];exact JL ws)
  rw[Y4,←LQ] at h;exact h)
 have HP:Hid (decide (0<jb ws)=decide (0<(jE ws).length)):=hid (by
  rw[←Yb];have:=Uw (XQ ws)
  cases h:jE ws with
  | nil=>rfl
  | cons a r=>
   have h1:jb (a::r)≠0:=fun e=>by rw[←h] at e;have:=this.1 e;rw[h] at this;cases this
   simp;omega)
 have HF:Hid (∀b:Bool,b=(neg&&decide (0<(jE ws).length))→kQ (sg neg (jb ws)) w (.returned (.agg #[.bool b,.slice A (jE ws).length c])) (w.alloc (.cells #[.bool b,.slice A (jE ws).length c] 127))):=hid (fun b hb=>by
  have hB:Below w.heap.size w (w.alloc (.cells #[.bool b,.slice A (jE ws).length c] 127)):=(Below.refl _ _).alloc (Nat.le_refl _) _
  exact⟨_,rfl,⟨_,jE ws,by rw[GL,HP.out,hb],by rw[Ki,Yb],Uz HOK.out,XQ ws,HS.out.below hB⟩,hB⟩)
 have HL:=hid (JL ws);go_enter Tryz.func183,Tryz.ntmps183
 go_wp2_with fail
 refine(XI A c ws _ (HV.out.below ((Below.refl _ _).alloc (Nat.le_refl _) _))).mono ?_;rintro e w1 ⟨rfl,hs,rfl⟩;clear hs
 cases neg with
 | true=>
  go_wp2
  obtain⟨z0,z1⟩:=Wa w 127 (.bool (decide (0<(jE ws).length))) (.slice A (jE ws).length c);exact bodyPost_ret (v:= .agg #[.bool (decide (0<(jE ws).length)),.slice A (jE ws).length c]) (by simp[results,Tryz.results183,go_sem,z0,z1]) rfl (HF.out _ (by simp))
 | false=>
  go_wp2
  obtain⟨z0,z1⟩:=Wa w 127 (.bool false) (.slice A (jE ws).length c);exact bodyPost_ret (v:= .agg #[.bool false,.slice A (jE ws).length c]) (by simp[results,Tryz.results183,go_sem,z0,z1]) rfl (HF.out _ (by simp))
theorem Wc (n:Int):kt (.int .i64 n):=by intro m h;cases h
theorem Ah (n:Int):∀u∈[Value.int .i64 n],kt u:=by intro u hu;simp at hu;subst hu;exact Wc n
theorem LS:∀u∈(Value.int .i64 0).cells.toList,kt u:=by intro u hu;simp[Value.cells] at hu;subst hu;exact Wc 0
def yh:Value:= .agg #[.bool false,.slice none 0 0,.slice none 0 0]
theorem KQ:(Tryz.prog.info? 122).map (fun i=>(i.zero,i.size,i.bytes))=some (some yh,3,56):=by kernel_rfl
theorem ZV:∀u∈yh.cells.toList,kt u:=by
 intro u hu;simp[Value.cells,yh] at hu;rcases hu with rfl | rfl
 ·exact(js _).noU
 ·exact(jq _ _ _).noU
theorem Y6 (s:Bool) (A B:Option Addr) (n m c d:Nat):∀u∈[Value.bool s,.slice A n c,.slice B m d],kt u:=by
 intro u hu;simp at hu;rcases hu with rfl | rfl | rfl
 ·exact(js _).noU
 ·exact(jq _ _ _).noU
 ·exact(jq _ _ _).noU
theorem K7 (s:Bool) (A B:Option Addr) (n m c d:Nat):∀u∈[Value.bool s,.slice A n c,.slice B m d],u.oneCell'=true:=by
 intro u hu;simp at hu;rcases hu with rfl | rfl | rfl <;> rfl
theorem Ye (w:World) (a b c:Value) (t:TypeId):∀j u,[a,b,c][j]? =some u→(w.alloc (.cells #[a,b,c] t)).cell? ((⟨w.heap.size,0,none⟩:Addr).add j)=some u:=by
 intro j u hu;have h:=ja.make w t [a,b,c]
 have e:((⟨w.heap.size,0,none⟩:Addr).add j)=⟨w.heap.size,j,none⟩:=by
  unfold Addr.add;split
  ·subst j;rfl
  ·simp
 rw[e];exact(h.cell j).trans hu
theorem zq.parts {S:jz Rat} {i j ib ic:Nat} {il:List Rat} {Q:List jr} {x:Rat} (h:zq i j S) (hQ:jX i S=Q) (hr:Q[S.cols.length]? =some (ib,ic,il)) (hx:il[j]?.getD 0=x):
  (∀x∈il,kv x) ∧ ∀(k:Nat) (r:jr),(setRow Q S.cols.length (kf jd x j il))[k]? =some r→k≠S.cols.length→Qv j r.2.2 (kf jd x j il):=by
 have e1:elPiv jd i j S=x:=by unfold elPiv jI;rw[hQ,kW hr];exact hx
 have e2:elDiv jd i j S=setRow Q S.cols.length (kf jd x j il):=by unfold elDiv;rw[e1,hQ,kW hr]
 have e3:jG (elDiv jd i j S) S.cols.length=kf jd x j il:=by rw[e2,kW (qA hr _)]
 obtain⟨h1,h2⟩:=h;rw[hQ,kW hr] at h1;rw[e3,e2] at h2;exact⟨h1,h2⟩
end Go.Proofs.YtneafcdfnhnpnaaGreatDoor
namespace Go.Proofs.YtneafcdfnhnpnaaGreatDoor
section
variable {T:Type} {F:Fd T}
def ju (R:List (jV T)):List (List T):=R.map (·.2.2)
theorem zg (R:List (jV T)) (i:Nat):jG R i=(ju R)[i]?.getD []:=by
 unfold jG ju;rw[List.getElem?_map]
theorem yl (R:List (jV T)):(ju R).length=R.length:=by simp[ju]
theorem Xk {R Q:List (jV T)} (h:ju R=ju Q) (i j:Nat):jI F R i j=jI F Q i j:=by unfold jI;rw[zg,zg,h]
theorem VH {R Q:List (jV T)} (h:ju R=ju Q):R.length=Q.length:=by rw[←yl R,←yl Q,h]
theorem Nm {R Q:List (jV T)} (h:ju R=ju Q) (j k i:Nat):yF F R j k i=yF F Q j k i:=by
 induction k generalizing i with
 | zero=>rfl
 | succ k ih=>unfold yF;rw[Xk h,ih]
theorem Wt {R Q:List (jV T)} (h:ju R=ju Q) (top k j:Nat):kP F R top k j=kP F Q top k j:=by
 induction k generalizing j with
 | zero=>rfl
 | succ k ih=>unfold kP;rw[Nm h,VH h,ih]
theorem Lp {R Q:List (jV T)} (h:ju R=ju Q) (i j:Nat):ju (j9 R i j)=ju (j9 Q i j):=by
 have e:∀R:List (jV T),ju (j9 R i j)=j9 (ju R) i j:=fun R=>by
  unfold j9 ju;rw[List.getElem?_map,List.getElem?_map];cases R[i]? <;> cases R[j]? <;> simp[List.map_set]
 rw[e,e,h]
theorem Lo {R Q:List (jV T)} (h:ju R=ju Q) (i:Nat) (L:List T):ju (setRow R i L)=ju (setRow Q i L):=by
 have e:∀R:List (jV T),ju (setRow R i L)=(ju R).modify i (fun _=>L):=fun R=>by
  unfold setRow ju;apply List.ext_getElem?;intro k;simp only[List.getElem?_map,List.getElem?_modify]
  cases R[k]? with
  | none=>rfl
  | some r=>simp only[Option.map_some];split <;> rfl
 rw[e,e,h]
theorem Ln {R Q:List (jV T)} (h:ju R=ju Q) (top o:Nat) (P:List T) (k:Nat):ju (ke F top o P R k)=ju (ke F top o P Q k):=by
 have e:∀R:List (jV T),ju (ke F top o P R k)=(ju R).mapIdx fun i L=>if i<k∧i≠top then kX F o L P else L:=fun R=>by
  unfold ke ju;apply List.ext_getElem?;intro j;simp only[List.getElem?_map,List.getElem?_mapIdx]
  cases R[j]? with
  | none=>rfl
  | some r=>simp only[Option.map_some];split <;> rfl
 rw[e,e,h]
structure kw (S Z:jz T):Prop where
 rows:ju S.rows=ju Z.rows
 cols:S.cols=Z.cols
 piv:S.piv=Z.piv
 odd:S.odd=Z.odd
variable {S Z:jz T}
theorem kw.swap (h:kw S Z) (row:Nat):ju (jX row S)=ju (jX row Z):=by
 unfold jX;rw[h.cols];split
 ·exact h.rows
 ·exact Lp h.rows _ _
theorem kw.elPiv (h:kw S Z) (row col:Nat):elPiv F row col S=elPiv F row col Z:=by unfold Proofs.YtneafcdfnhnpnaaGreatDoor.elPiv;rw[Xk (h.swap row),h.cols]
theorem kw.elDiv (h:kw S Z) (row col:Nat):ju (elDiv F row col S)=ju (elDiv F row col Z):=by
 unfold Proofs.YtneafcdfnhnpnaaGreatDoor.elDiv;rw[h.elPiv,h.cols,zg,zg,h.swap row];exact Lo (h.swap row) _ _
theorem kw.step (h:kw S Z) (row col:Nat):kw (jU F row col S) (jU F row col Z):=by
 have hd:=h.elDiv (F:=F) row col;unfold jU;refine⟨?_,?_,?_,?_⟩
 ·dsimp only
  rw[h.cols,zg,zg,hd,VH hd];exact Ln hd _ _ _ _
 ·dsimp only;rw[h.cols]
 ·dsimp only;rw[h.piv,h.elPiv]
 ·dsimp only;rw[h.cols,h.odd]
theorem kw.go (n:Nat):∀(k fr:Nat) {S Z:jz T},kw S Z→kw (jH F n k fr S) (jH F n k fr Z)
 | 0,_,_,_,h=>h
 | k+1,fr,S,Z,h=>by
  unfold jH;rw[Wt h.rows,h.cols];split
  ·exact h
  ·exact kw.go n k _ (h.step _ _)
theorem kw.nsSet (h:kw S Z) (zero:T) (col k:Nat) (L:List T):nsSet F zero S col k L=nsSet F zero Z col k L:=by
 induction k with
 | zero=>rfl
 | succ k ih=>rw[K4,K4,ih,h.cols,Xk h.rows]
theorem kw.nsBasis (h:kw S Z) (zero one:T) (n k:Nat):nsBasis F zero one n S k=nsBasis F zero one n Z k:=by
 induction k with
 | zero=>rfl
 | succ k ih=>
  unfold Proofs.YtneafcdfnhnpnaaGreatDoor.nsBasis zC;rw[ih,h.cols,h.nsSet]
def zO (M:List (List T)):List (jV T):=M.map fun L=>(0,0,L)
theorem Rl (M:List (List T)):ju (zO M)=M:=by unfold ju zO;rw[List.map_map];simp[Function.comp_def]
theorem GI {R:List (jV T)} {M:List (List T)} (h:ju R=M):kw (⟨R,[],[],false⟩:jz T) ⟨zO M,[],[],false⟩:=⟨by rw[Rl];exact h,rfl,rfl,rfl⟩
def ko (F:Fd T) (n:Nat) (M:List (List T)):jz T:=jH F n M.length 0 ⟨zO M,[],[],false⟩
theorem J2 {R:List (jV T)} {M:List (List T)} (h:ju R=M) (n:Nat):kw (jH F n R.length 0 ⟨R,[],[],false⟩) (ko F n M):=by
 unfold ko
 have hl:R.length=M.length:=by rw[←h,yl]
 rw[hl];exact kw.go n _ _ (GI h)
theorem VV (f:List T→List T) (R:List (jV T)):ju (kj f R R.length)=(ju R).map f:=by
 rw[Y0];unfold ju;rw[List.map_map,List.map_map];rfl
end
section
variable {S Z:jz Rat}
theorem kw.stepOk (h:kw S Z) (row col:Nat) (hz:zq row col Z):zq row col S:=by
 obtain⟨h1,h2⟩:=hz;have hd:=h.elDiv (F:=jd) row col;refine⟨fun x hx=>h1 x ?_,fun i r hr hi=> ?_⟩
 ·rw[zg,←h.cols,←h.swap row,←zg];exact hx
 ·have hv:(ju (Proofs.YtneafcdfnhnpnaaGreatDoor.elDiv jd row col Z))[i]? =some r.2.2:=by rw[←hd];unfold ju;rw[List.getElem?_map,hr];rfl
  unfold ju at hv;rw[List.getElem?_map] at hv
  cases hz:(Proofs.YtneafcdfnhnpnaaGreatDoor.elDiv jd row col Z)[i]? with
  | none=>rw[hz] at hv;cases hv
  | some q=>
   rw[hz] at hv;have e:q.2.2=r.2.2:=Option.some.inj hv;have:=h2 i q hz (by rw[←h.cols];exact hi);rw[zg,←hd,←zg,←h.cols,e] at this;exact this
theorem kw.elOk (n:Nat):∀(k fr:Nat) {S Z:jz Rat},kw S Z→qG n k fr Z→qG n k fr S
 | 0,_,_,_,_,_=>trivial
 | k+1,fr,S,Z,h,hz=>by
  unfold qG at hz ⊢;rw[Wt h.rows,h.cols];split
  ·trivial
  ·rename_i row col hp
   rw[hp] at hz;exact⟨h.stepOk _ _ hz.1,kw.elOk n k _ (h.step _ _) hz.2⟩
def yS (n:Nat) (M:List (List Rat)):Prop:=qG n M.length 0 ⟨zO M,[],[],false⟩
theorem yS.rows {n:Nat} {M:List (List Rat)} (h:yS n M) {R:List jr} (hR:ju R=M):qG n R.length 0 ⟨R,[],[],false⟩:=by
 have hl:R.length=M.length:=by rw[←hR,yl]
 rw[hl];exact kw.elOk n _ _ (GI hR) h
end
end Go.Proofs.YtneafcdfnhnpnaaGreatDoor
namespace Go.Proofs.YtneafcdfnhnpnaaGreatDoor
open Go.RowKit Go.Lib
theorem y7 (a b:List El):jw (a++b)=jw a++jw b:=by
 induction a with
 | nil=>rfl
 | cons e t ih=>simp only[List.cons_append,jw,ih]
theorem GH {P:Program} (w:World) (dT sT ty elem:TypeId) (size g o dLen dCap:Nat) (a:Addr) (sLen sCap:Nat) (cur:Array Value) (t:TypeId) (m:Nat) (cs:List Value)
  (hu:P.underlying dT=some (.slice elem)) (hs:(P.info? elem).map (·.size)=some size)
  (hg:w.heap[g]? =some (.cells cur t (0,0))) (hm:Nat.min sLen dLen=m) (hn:cs.length=m*size)
  (hsrc:∀j v,cs[j]? =some v→w.cell? (a.add j)=some v) (hfit:o+cs.length≤cur.size) (h1:∀v∈cs,v.oneCell'=true):
  (Builtin.copy_ #[dT,sT] ty #[.slice (some ⟨g,o,none⟩) dLen dCap,.slice (some a) sLen sCap]).run P w =
   .ok (goInt m) (w.setRow g (cur.toList.take o++cs++cur.toList.drop (o+cs.length)).toArray):=by
 have hl:=run_loadCells_list (P:=P) w a cs hsrc;have hst:=run_storeCells_at P g o t cs 0 cur w hg (by simpa using hfit) h1
 cases hq:P.info? elem with
 | none=>simp[hq] at hs
 | some i=>
  have hi:i.size=size:=by simpa [hq] using hs
  simp[Builtin.copy_,run_underlying hu,Builtin.lenOf,Builtin.firstCells,sizeOf,typeInfo,hq,hi,hm,←hn,hl,hst]
theorem LJ {P:Program} {w:World} {ops:Array Oper} {rest:List Oper} {o:Oper} {a:Act} {Q:Exit→Act→World→Prop} (hgd:o.guard=none) (d s:Operand) (dT sT:TypeId)
  (ho:o.op = .call { callee:= .builtin .copy,args:= #[d,s],argTypes:= #[dT,sT] }) (elem:TypeId) (size:Nat) (hu:P.underlying dT=some (.slice elem)) (hsz:(P.info? elem).map (·.size)=some size)
  (g off dLen dCap:Nat) (ad:Addr) (sLen sCap:Nat) (hd:a.eval d = .slice (some ⟨g,off,none⟩) dLen dCap) (hs:a.eval s = .slice (some ad) sLen sCap)
  (cur:List Value) (t:TypeId) (hg:w.heap[g]? =some (.cells cur.toArray t (0,0))) (m:Nat) (hm:Nat.min sLen dLen=m) (cs:List Value) (hn:cs.length=m*size)
  (hsrc:∀j v,cs[j]? =some v→w.cell? (ad.add j)=some v) (hfit:off+cs.length≤cur.length) (h1:∀v∈cs,v.oneCell'=true) (B:Nat) (w0:World) (hb:Below B w0 w) (hBg:B≤g)
  (h:∀w',Hid (w'.heap[g]? =some (.cells (splice cur off cs).toArray t (0,0)))→Below B w0 w'→wpList P ops Q rest (a.put o.dst (goInt m)) w'):wpList P ops Q (o::rest) a w:=by
 refine wpList_plain hgd fun K hK=> ?_
 have hrun:=GH (P:=P) w dT sT o.type elem size g off dLen dCap ad sLen sCap cur.toArray t m cs hu hsz hg hm hn hsrc (by simpa using hfit) h1;unfold Oper.wp;simp[execOp,ho,resolve,invoke,builtin,hd,hs,hrun,Result.andThen];exact hK _ _ (h _ (show _=_ by simpa [splice] using setRow_heap w g _ _ t _ hg) (below_setRow hb hBg _))
abbrev ka:El:=(false,.slice none 0 0,.slice none 0 0)
theorem VL (n:Nat):(madeCells #[Value.bool false,.slice none 0 0,.slice none 0 0] (n*3)).toList=jw (List.replicate n ka):=by
 apply List.ext_getElem?;intro j;unfold madeCells;simp only[Array.toList_map,List.getElem?_map,Array.toList_range];rcases Nat.lt_or_ge j (n*3) with hj | hj
 ·rw[List.getElem?_range hj]
  have hq:j/3<n:=by omega
  obtain⟨h1,h2,h3⟩:=QY (List.replicate n ka) (j/3) ka (by simp[hq]);have hd:=Nat.div_add_mod j 3;have hm:=Nat.mod_lt j (show 0<3 by omega)
  have hc:j%3=0∨j%3=1∨j%3=2:=by omega
  rcases hc with hc | hc | hc
  ·have e:j/3*3=j:=by omega
   rw[e] at h1;rw[h1];simp[hc]
  ·have e:j/3*3+1=j:=by omega
   rw[e] at h2;rw[h2];simp[hc]
  ·have e:j/3*3+2=j:=by omega
   rw[e] at h3;rw[h3];simp[hc]
 ·rw[List.getElem?_eq_none (by simpa using hj),List.getElem?_eq_none (by rw[qC];simpa using hj)];rfl
def kF (e:El) (n k:Nat):List Value:=jw (List.replicate k e++List.replicate (n-k) ka)
theorem Vg (e:El) {n k:Nat} (h:k≤n):(kF e n k).length=n*3:=by unfold kF;rw[qC];simp;omega
theorem Vh (e:El) {n k m:Nat} (h:k+m≤n):splice (kF e n k) (k*3) (jw (List.replicate m e))=kF e n (k+m):=by
 unfold splice kF;rw[y7,List.take_left' (by rw[qC];simp),qC,List.length_replicate]
 have hz:List.replicate (n-k) ka=List.replicate m ka++List.replicate (n-(k+m)) ka:=by rw[List.replicate_append_replicate];congr 1;omega
 rw[hz,y7,←List.append_assoc (jw _) (jw _) (jw _),List.drop_left' (by rw[List.length_append,qC,qC];simp),←y7,←y7]
 congr 1
 rw[←List.append_assoc,List.replicate_append_replicate]
theorem YU (w:World) (e:El) (n:Nat) (hn:n≤1000000):(Instr.makeSlice 167 (.int .i64 (n:Int)) (.int .i64 (n:Int))).run Tryz.prog w = .ok (.slice (some ⟨w.heap.size,0,none⟩) n n) (w.alloc (.cells (kF e n 0).toArray 122)):=by
 obtain⟨i,hi,hz,hs,hb⟩:=info_parts KQ;have:=run_makeSlice (P:=Tryz.prog) (w:=w) 167 122 i yh Tryz.underlying167 hi hz .i64 .i64 (n:Int) (n:Int) (by omega) (by omega) (by rw[hs];simp;omega) (by rw[hb];omega) (by omega);rw[this,hs]
 have e1:madeCells yh.cells ((n:Int).toNat*3)=(kF e n 0).toArray:=by
  rw[Int.toNat_natCast];apply Array.toList_inj.1
  show (madeCells #[Value.bool false,.slice none 0 0,.slice none 0 0] (n*3)).toList=_
  rw[VL];simp[kF]
 rw[e1];simp
theorem Da:(Tryz.prog.info? 167).map (fun i=>(i.zero,i.size,i.bytes))=some (some (.slice none 0 0),1,24):=by kernel_rfl
theorem VP (w:World) (n:Nat) (hn:n≤1000000):(Instr.makeSlice 163 (.int .i64 (n:Int)) (.int .i64 (n:Int))).run Tryz.prog w = .ok (.slice (some ⟨w.heap.size,0,none⟩) n n) (w.alloc (.cells (List.replicate n jm).toArray 167)):=by
 have:=run_make_row' (P:=Tryz.prog) 163 167 jm 24 Tryz.underlying163 Da rfl .i64 .i64 n (by omega) (by omega) w;rw[zY] at this;exact this
structure qW (w wr:World) (g n:Nat) (M:List (List Rat)) (k:Nat) (R:List jr):Prop where
 own:ja wr g 167 (R.map (jZ n)++List.replicate (M.length-k) jm)
 rows:∀r∈R,(∃es,jp wr r.1 es r.2.2)∧r.2.2.length=n∧n≤r.2.1∧r.2.1≤9223372036854775807
 new:∀r∈R,w.heap.size≤r.1
 apart:(R.map (·.1)).Nodup
 vals:ju R=M.take k
theorem qW.start (w:World) (M:List (List Rat)) (n:Nat):qW w (w.alloc (.cells (List.replicate M.length jm).toArray 167)) w.heap.size n M 0 []:=
 ⟨by simpa using ja.make w 167 (List.replicate M.length jm),by simp,by simp,by simp,rfl⟩
theorem qW.len {w wr:World} {g n:Nat} {M:List (List Rat)} {k:Nat} {R:List jr} (h:qW w wr g n M k R) (hk:k≤M.length):R.length=k:=by
 have:=congrArg List.length h.vals;rw[yl] at this;simp at this;omega
theorem qW.step {w wr w1:World} {g n gn cn:Nat} {M:List (List Rat)} {k:Nat} {R:List jr} {r:List Rat} {es:List El} (h:qW w wr g n M k R) (hk:M[k]? =some r) (hl:r.length=n) (hn:n≤cn) (hcn:cn≤9223372036854775807) (hb:Below wr.heap.size wr w1) (hg:wr.heap.size≤gn) (hgn:w.heap.size≤gn) (hO:jp w1 gn es r):
  qW w (w1.setCell ⟨g,k,none⟩ (.slice (some ⟨gn,0,none⟩) n cn)) g n M (k+1) (R++[(gn,cn,r)]):=by
 have hkl:k<M.length:=(List.getElem?_eq_some_iff.1 hk).1;have hR:=h.len (by omega);have hglt:=h.own.lt;have hO1:=h.own.below hb hglt;have hBt:jh g w1 (w1.setCell ⟨g,k,none⟩ (.slice (some ⟨gn,0,none⟩) n cn)):=(jh.refl g w1).setCell ⟨g,k,none⟩ rfl _
 have hno:∀c∈R.map (jZ n)++List.replicate (M.length-k) jm,km c:=by
  intro c hc;rcases List.mem_append.1 hc with hc | hc
  ·exact Zw n R c hc
  ·rw[List.eq_of_mem_replicate hc];exact jq _ _ _
 have hK:=kr.but hBt hO1 hno
 have hne:∀(b:Nat) (es:List El) (q:List Rat),jp w1 b es q→b≠g:=fun b es q hq e=>by
  have h1:=hq.own;unfold ja at h1 hO1;rw[e] at h1;rw[hO1] at h1
  injection h1 with h1
  injection h1 with _ h1
  exact absurd h1 (by decide)
 refine⟨?_,?_,?_,?_,?_⟩
 ·have:=hO1.put k (.slice (some ⟨gn,0,none⟩) n cn)
  rw[List.set_append_right _ _ (by simp[hR]),show M.length-k=(M.length-(k+1))+1 by omega,List.replicate_succ,List.length_map,hR,Nat.sub_self,List.set_cons_zero] at this;rw[List.map_append,List.append_assoc];exact this
 ·intro x hx
  rcases List.mem_append.1 hx with hx | hx
  ·have:=h.rows x hx
   obtain⟨es',he⟩:=this.1;have he1:=he.below hb;exact⟨⟨es',he1.keeps hK (hBt.block _ he1.own.lt (hne _ _ _ he1))⟩,this.2⟩
  ·obtain rfl:=List.mem_singleton.1 hx
   exact⟨⟨es,hO.keeps hK (hBt.block _ hO.own.lt (hne _ _ _ hO))⟩,hl,hn,hcn⟩
 ·intro x hx
  rcases List.mem_append.1 hx with hx | hx
  ·exact h.new x hx
  ·obtain rfl:=List.mem_singleton.1 hx;exact hgn
 ·rw[List.map_append,List.nodup_append]
  refine⟨h.apart,by simp,fun a ha b hb'=> ?_⟩;obtain⟨x,hx,rfl⟩:=List.mem_map.1 ha;simp at hb';obtain⟨es',he⟩:=(h.rows x hx).1;have:=he.own.lt;omega
 ·unfold ju;rw[List.map_append]
  have:=h.vals;unfold ju at this;rw[this,List.take_add_one,hk];rfl
theorem qW.done {w wr:World} {g n:Nat} {M:List (List Rat)} {R:List jr} (h:qW w wr g n M M.length R):j8 wr g R n∧ju R=M∧R.length=M.length:=
 ⟨⟨by have:=h.own;rw[Nat.sub_self] at this;simpa using this,h.rows,h.apart⟩,by rw[h.vals,List.take_of_length_le (Nat.le_refl _)],h.len (Nat.le_refl _)⟩
theorem jL.toBelow {s:List Nat} {a b:World} {B:Nat} (h:jL s a b) (hs:∀k∈s,B≤k) (hB:B≤a.heap.size):Below B a b:=
 ⟨h.os,h.tape,h.output,h.size,fun k hk=>h.block k (by omega) (fun hm=>by have:=hs k hm;omega)⟩
