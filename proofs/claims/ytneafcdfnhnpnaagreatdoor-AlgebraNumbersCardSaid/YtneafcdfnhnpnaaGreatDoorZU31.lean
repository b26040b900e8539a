/- Contract: the permutation at a place. -/
import Derived.Test.YtneafcdfnhnpnaaGreatDoorZU30
import Derived.Test.YtneafcdfnhnpnaaGreatDoorZU04
import Derived.Test.YtneafcdfnhnpnaaGreatDoorZU05
import Derived.Test.YtneafcdfnhnpnaaGreatDoorZU29
import Derived.Test.YtneafcdfnhnpnaaGreatDoorZU10
import Derived.Test.YtneafcdfnhnpnaaGreatDoorZU11
import Derived.Test.YtneafcdfnhnpnaaGreatDoorZU13
import Derived.Deep.RegionHeld3
import Derived.RangeFuncNested
import Derived.RangeFuncBound
import Derived.RangeFuncCalls
import Derived.RangeFuncLeaves
import Derived.Test.YtneafcdfnhnpnaaGreatDoorZU07
import Derived.Test.YtneafcdfnhnpnaaGreatDoorZU06
import Derived.Deep.LoopGhost
import Derived.Laws.AppendOwn
import Derived.Sort.LoopGhostIn
import Derived.Shelf.RegionOpen
import Derived.WalkKit
import Derived.OwnWalkIn
import Derived.TacticsInMore
import Derived.LoopNIn
import Derived.LoopIn
import Derived.Maps.AppendAt
set_option maxRecDepth 100000
set_option maxHeartbeats 4000000
namespace Go.Proofs.YtneafcdfnhnpnaaGreatDoor
open Go.RowKit Go.Lib
theorem factDig_at (x n k j:Nat) (hk:k≤n) (hj:n-k≤j) (hjn:j<n):(factDig x n k)[j]? =some ((factRest x (n-1-j)%(n-j):Nat):Int):=by
 induction k with
 | zero=>omega
 | succ k ih=>
  unfold factDig
  by_cases he:n-1-k=j
  ·subst he
   rw[List.getElem?_set_self (by rw[factDig_length];omega)]
   rw[show n-1-(n-1-k)=k by omega,show n-(n-1-k)=k+1 by omega]
  ·rw[List.getElem?_set_ne he]
   exact ih (by omega) (by omega)
theorem factDig_ok (x n:Nat):PlOk (factDig x n n):=by
 intro k hk
 rw[factDig_length] at hk ⊢
 rw[factDig_at x n n k (Nat.le_refl _) (by omega) hk]
 have:=Nat.mod_lt (factRest x (n-1-k)) (show 0<n-k by omega)
 simp only[Option.getD_some]
 omega
def unrCode (n:Int) (l:List UInt8):Int:=
 if ¬(0≤n∧n≤256) then 3 else if (readRes l).1≠0 then (readRes l).1
 else if (readRes l).2.num<0∨(readRes l).2.den≠1 then 3 else if factRest (readRes l).2.num.natAbs n.toNat≠0 then 3 else 0
def unrPost (n:Int) (l:List UInt8) (w:World) (e:Ending) (w':World):Prop:=
 Below w.heap.size w w'∧((unrCode n l=0 ∧ ∃g,e = .returned (.tuple #[.slice (some ⟨g,0,none⟩) n.toNat n.toNat,.int .i64 0])∧w.heap.size≤g∧Own w' g 3 (icells (pickTo (factDig (readRes l).2.num.natAbs n.toNat n.toNat) n.toNat).1)) ∨
  (unrCode n l≠0∧e = .returned (.tuple #[.slice none 0 0,.int .i64 (unrCode n l)])))
theorem Unrank_c (n:Int) (l:List UInt8) (w:World) (hl:l.length<4294967281) (hG:Glob w) (hD:OkLen l.length) (hF:Fits (readRes l).2.num.natAbs):
  Calls Tryz.prog 59 #[.int .i64 n,.string ⟨l.toArray⟩] w (unrPost n l w):=by
 have RD:=hid (read_c l w hl hG hD)
 have HF:=hid hF
 clear hl hG hD hF
 by_cases hn:0≤n∧n≤256
 ·obtain⟨m,rfl⟩:=Int.eq_ofNat_of_zero_le hn.1
  have hm:m≤256:=by omega
  have HW:Hid (inRange (m:Int) 0 256=0):=hid (by unfold inRange;rw[if_pos hn])
  have HC:Hid (unrCode (m:Int) l=if (readRes l).1≠0 then (readRes l).1 else if (readRes l).2.num<0∨(readRes l).2.den≠1 then 3 else if factRest (readRes l).2.num.natAbs m≠0 then 3 else 0):=hid (by
   unfold unrCode;rw[if_neg (by simpa using hn)];rfl)
  have HT:Hid ((m:Int).toNat=m):=hid (by simp)
  clear hn
  unfold unrPost
  rw[HT.out]
  generalize hrr:readRes l=rr at *
  obtain⟨code,q⟩:=rr
  dsimp only at HC HF ⊢
  clear hrr
  go_enter Tryz.func59,Tryz.ntmps59
  go_wp2_with (go_at_call 132;refine(within_c _ _ _ _).mono ?_;rintro e w' ⟨rfl,rfl⟩;rw[HW.out])
  by_cases hc:code=0
  ·have RD2:Hid (Calls Tryz.prog 102 #[.string ⟨l.toArray⟩] w (okPost q w)):=hid (RD.out.mono fun e w' h=>by unfold readPost at h;rw[if_pos hc] at h;exact h)
   have HC2:Hid (unrCode (m:Int) l=if q.num<0∨q.den≠1 then 3 else if factRest q.num.natAbs m≠0 then 3 else 0):=hid (by rw[HC.out,if_neg (by simpa using hc)])
   clear hc RD HC
   refine RD2.out.mono ?_
   clear RD2
   rintro e w1 ⟨v,rfl,hv,hB1⟩
   obtain⟨nv,dv,rfl,hnv,hdv⟩:=hv
   obtain⟨A1,n1,k1,rfl,_⟩:=hnv.size_
   obtain⟨A2,n2,k2,rfl,_⟩:=hdv.size_
   have Hn:=hid hnv
   have Hd:=hid hdv
   clear hnv hdv
   have hs1:=hB1.size
   by_cases hneg:q.num<0
   ·have HR:Hid (unrCode (m:Int) l=3):=hid (by rw[HC2.out,if_pos (.inl hneg)])
    have hde:decide (q.num<0)=true:=by simpa using hneg
    rw[hde]
    clear hneg hde
    go_wp2
    go_ret2
    exact⟨hB1.alloc hs1 _,.inr ⟨by rw[HR.out];decide,by rw[HR.out];rfl⟩⟩
   ·have hde:decide (q.num<0)=false:=by simpa using hneg
    have Hneg:=hid hneg
    rw[hde]
    clear hneg hde
    have hal:Below w1.heap.size w1 (w1.alloc (.cells #[.bool false,.slice A1 n1 k1,.slice A2 n2 k2] 122)):=(Below.refl _ _).alloc (Nat.le_refl _) _
    by_cases hden:q.den=1
    ·have Hden:=hid (decide_eq_true hden)
     have HC3:Hid (unrCode (m:Int) l=if factRest q.num.natAbs m≠0 then 3 else 0):=hid (by rw[HC2.out,if_neg (by rintro (h | h);exact Hneg.out h;exact h hden)])
     clear hden HC2
     go_wp2_with (go_at_call 139;refine(isOne_c _ _ _ (Hd.out.below hal)).mono ?_;rintro e w' ⟨rfl,rfl⟩;rw[Hden.out])
     refine(factorialDigits_c _ _ m _ (Hn.out.below hal) HF.out hm).mono ?_
     rintro e w2 ⟨u,r,rfl,hu,hr,hB2⟩
     have HB2:=hid ((hB1.alloc hs1 (.cells #[.bool false,.slice A1 n1 k1,.slice A2 n2 k2] 122)).trans (hB2.mono (by simp;omega)))
     have Hu:=hid hu
     by_cases hrest:factRest q.num.natAbs m=0
     ·have HC4:Hid (unrCode (m:Int) l=0):=hid (by rw[HC3.out,if_neg (by simpa using hrest)])
      rw[hrest] at hr
      obtain⟨A3,k3,rfl⟩:=Nt.zero_len hr
      have PK:=hid (pick_c u _ w2 hu (factDig_ok _ _) (by rw[factDig_length];exact hm))
      clear hu hr hB2 hrest HC3
      go_wp2_with fail
      refine PK.out.mono ?_
      clear PK
      rintro e w3 ⟨g,rfl,hg,hO,hB3⟩
      rw[factDig_length] at hO ⊢
      have HO:=hid hO
      have HB3:=hid (HB2.out.trans (hB3.mono HB2.out.size))
      have HG:=hid (Nat.le_trans HB2.out.size hg)
      clear hO hB3 hg
      go_wp2
      go_ret2
      exact⟨HB3.out,.inl ⟨HC4.out,g,rfl,HG.out,HO.out⟩⟩
     ·have HC4:Hid (unrCode (m:Int) l=3):=hid (by rw[HC3.out,if_pos hrest])
      obtain⟨A3,n3,k3,rfl,hn3,_⟩:=hr.pos_len hrest
      clear hu hr hB2 hrest HC3
      go_wp2
      go_ret2
      exact⟨HB2.out,.inr ⟨by rw[HC4.out];decide,by rw[HC4.out];rfl⟩⟩
    ·have Hden:=hid (decide_eq_false hden)
     have HR:Hid (unrCode (m:Int) l=3):=hid (by rw[HC2.out,if_pos (.inr hden)])
     clear hden HC2
     go_wp2_with (go_at_call 139;refine(isOne_c _ _ _ (Hd.out.below hal)).mono ?_;rintro e w' ⟨rfl,rfl⟩;rw[Hden.out])
     go_ret2
     exact⟨hB1.alloc hs1 _,.inr ⟨by rw[HR.out];decide,by rw[HR.out];rfl⟩⟩
  ·have RD2:Hid (Calls Tryz.prog 102 #[.string ⟨l.toArray⟩] w (errPost code w)):=hid (RD.out.mono fun e w' h=>by unfold readPost at h;rw[if_neg hc] at h;exact h)
   have HC2:Hid (unrCode (m:Int) l=code):=hid (by rw[HC.out,if_pos hc])
   have hcb:(code != 0)=true:=by simpa using hc
   have Hc:=hid hc
   clear hc RD HC
   refine RD2.out.mono ?_
   clear RD2
   rintro e w1 ⟨rfl,hB1⟩
   unfold zeroR
   have hs1:=hB1.size
   go_wp2
   go_ret2
   exact⟨hB1.alloc hs1 _,.inr ⟨by rw[HC2.out];exact Hc.out,by rw[HC2.out];rfl⟩⟩
 ·have HC:Hid (unrCode n l=3):=hid (by unfold unrCode;rw[if_pos hn])
  have HW:Hid (inRange n 0 256=3):=hid (by unfold inRange;rw[if_neg hn])
  clear hn RD HF
  go_enter Tryz.func59,Tryz.ntmps59
  go_wp2_with (go_at_call 132;refine(within_c _ _ _ _).mono ?_;rintro e w' ⟨rfl,rfl⟩;rw[HW.out])
  go_ret2
  exact⟨Below.refl _ _,.inr ⟨by rw[HC.out];decide,by rw[HC.out];rfl⟩⟩
def fitB (x:Nat):Bool:=decide (x<WB)
theorem fitB_ok {x:Nat} (h:fitB x=true):Fits x:= .small (of_decide_eq_true h)
def fitQB (q:Rat):Bool:=fitB q.num.natAbs&&fitB q.den
theorem fitQB_ok {q:Rat} (h:fitQB q=true):FitQ q:=by
 unfold fitQB at h;rw[Bool.and_eq_true] at h;exact⟨fitB_ok h.1,fitB_ok h.2⟩
def fitPB (p q:Rat):Bool:=fitQB p&&fitQB q&&fitB (p.num.natAbs*q.den+q.num.natAbs*p.den)
theorem fitPB_ok {p q:Rat} (h:fitPB p q=true):FitP p q:=by
 unfold fitPB at h;rw[Bool.and_eq_true,Bool.and_eq_true] at h;exact⟨fitQB_ok h.1.1,fitQB_ok h.1.2,fitB_ok h.2⟩
def clrB (o:Nat) (L P:List Rat):Bool:=
 fitQB (L[o]?.getD 0)&&(List.range L.length).all fun j=>decide (j<o)||(fitQB (P[j]?.getD 0)&&fitPB (L[j]?.getD 0) (L[o]?.getD 0*P[j]?.getD 0))
theorem clrB_ok {o:Nat} {L P:List Rat} (h:clrB o L P=true):ClrOk o L P:=by
 unfold clrB at h
 rw[Bool.and_eq_true] at h
 refine⟨fitQB_ok h.1,fun j hj hl=> ?_⟩
 have:=List.all_eq_true.1 h.2 j (List.mem_range.2 hl)
 rw[Bool.or_eq_true,Bool.and_eq_true] at this
 rcases this with h1 | h1
 ·have:=of_decide_eq_true h1;omega
 ·exact⟨fitQB_ok h1.1,fitPB_ok h1.2⟩
def stepB (row col:Nat) (S:ElS Rat):Bool:=
 (rowOf (elSwap row S) S.cols.length).all fitQB &&
 (List.range (elDiv ratF row col S).length).all fun i=>decide (i=S.cols.length)||match (elDiv ratF row col S)[i]? with
  | none=>true
  | some r=>clrB col r.2.2 (rowOf (elDiv ratF row col S) S.cols.length)
theorem stepB_ok {row col:Nat} {S:ElS Rat} (h:stepB row col S=true):StepOk row col S:=by
 unfold stepB at h
 rw[Bool.and_eq_true] at h
 refine⟨fun x hx=>fitQB_ok (List.all_eq_true.1 h.1 x hx),fun i r hi hne=> ?_⟩
 have:=List.all_eq_true.1 h.2 i (List.mem_range.2 (List.getElem?_eq_some_iff.1 hi).1)
 rw[Bool.or_eq_true,hi] at this
 rcases this with h1 | h1
 ·exact absurd (of_decide_eq_true h1) hne
 ·exact clrB_ok h1
def elB (n:Nat):Nat→Nat→ElS Rat→Bool
 | 0,_,_=>true
 | k+1,fr,S=>match pivF ratF S.rows S.cols.length (n-fr) fr with
  | none=>true
  | some (row,col)=>stepB row col S&&elB n k (col+1) (elStep ratF row col S)
theorem elB_ok {n:Nat} :∀(k fr:Nat) (S:ElS Rat),elB n k fr S=true→ElOk n k fr S
 | 0,_,_,_=>trivial
 | k+1,fr,S,h=>by
  unfold ElOk
  unfold elB at h
  split
  ·trivial
  ·rename_i row col hp
   rw[hp] at h
   simp only[Bool.and_eq_true] at h
   exact⟨stepB_ok h.1,elB_ok k _ _ h.2⟩
def okB (n:Nat) (M:List (List Rat)):Bool:=elB n M.length 0 ⟨bareR M,[],[],false⟩
theorem okB_ok {n:Nat} {M:List (List Rat)} (h:okB n M=true):OkM n M:=elB_ok _ _ _ h
def finB (S:ElS Rat):Bool:=S.rows.all fun r=>r.2.2.all fitQB
theorem finB_ok {S:ElS Rat} (h:finB S=true):FinOk S:=fun r hr x hx=>fitQB_ok (List.all_eq_true.1 (List.all_eq_true.1 h r hr) x hx)
def kerB (n:Nat) (M:List (List Rat)):Bool:=okB n (M.map List.reverse)&&finB (elimM ratF n (M.map List.reverse))
theorem kerB_ok {n:Nat} {M:List (List Rat)} (h:kerB n M=true):KerOk n M:=by
 unfold kerB at h;rw[Bool.and_eq_true] at h;exact⟨okB_ok h.1,finB_ok h.2⟩
def solB (n:Nat) (M:List (List Rat)) (b:List Rat):Bool:=okB (n+1) (joinM M b)&&(solL n M b).all fitQB
theorem solB_ok {n:Nat} {M:List (List Rat)} {b:List Rat} (h:solB n M b=true):SolOk n M b:=by
 unfold solB at h;rw[Bool.and_eq_true] at h;exact⟨okB_ok h.1,fun q hq=>fitQB_ok (List.all_eq_true.1 h.2 q hq)⟩
def detB (n:Nat) (M:List (List Rat)):Bool:=
 okB n M&&((List.range (elimM ratF n M).piv.length).all fun k=>fitQB (detFrom (elimM ratF n M) k)&&fitQB ((elimM ratF n M).piv[k]?.getD 0))&&fitQB (detM n M)
theorem detB_ok {n:Nat} {M:List (List Rat)} (h:detB n M=true):DetMOk n M:=by
 unfold detB at h
 rw[Bool.and_eq_true,Bool.and_eq_true] at h
 refine⟨okB_ok h.1.1,fun k hk=> ?_,fitQB_ok h.2⟩
 have:=List.all_eq_true.1 h.1.2 k (List.mem_range.2 hk)
 rw[Bool.and_eq_true] at this
 exact⟨fitQB_ok this.1,fitQB_ok this.2⟩
def prodB (L P:List Rat):Bool:=(List.range L.length).all fun k=>fitQB (L[k]?.getD 0)&&fitQB (P[k]?.getD 0)&&fitPB (prodTo L P k) (L[k]?.getD 0*P[k]?.getD 0)
theorem prodB_ok {L P:List Rat} (h:prodB L P=true):ProdOk L P:=fun k hk=>by
 have:=List.all_eq_true.1 h k (List.mem_range.2 hk)
 rw[Bool.and_eq_true,Bool.and_eq_true] at this
 exact⟨fitQB_ok this.1.1,fitQB_ok this.1.2,fitPB_ok this.2⟩
def refB (n:Nat) (V:List (List Rat)) (b y:List Rat):Bool:=
 (List.range (n+1)).all fun j=>prodB ((refE n V b)[j]?.getD []) y&&fitPB (prodTo ((refE n V b)[j]?.getD []) y V.length) ((refS n)[j]?.getD 0)
theorem refB_ok {n:Nat} {V:List (List Rat)} {b y:List Rat} (h:refB n V b y=true):RefOk n V b y:=fun j hj=>by
 have:=List.all_eq_true.1 h j (List.mem_range.2 hj)
 rw[Bool.and_eq_true] at this
 exact⟨prodB_ok this.1,fitPB_ok this.2⟩
def aM1:List (List Txt):=[[[49],[50],[51]],[[50],[52],[55]]]
def aB1:List Txt:=[[52],[57]]
def aM2:List (List Txt):=[[[49],[50]],[[51],[52]]]
def aM3:List (List Txt):=[[[49],[49]],[[50],[50]]]
def aB3:List Txt:=[[49],[51]]
def aY3:List Txt:=[[45,50],[49]]
theorem aR1:matErr aM1=0:=by decide +kernel
theorem aV1:aM1.map rvals=[[1,2,3],[2,4,7]]:=by decide +kernel
theorem aR2:eqErr aM1 aB1=0:=by decide +kernel
theorem aV2:rvals aB1=[4,9]:=by decide +kernel
theorem aR3:matErr aM2=0:=by decide +kernel
theorem aV3:aM2.map rvals=[[1,2],[3,4]]:=by decide +kernel
theorem aR4:eqErr aM3 aB3=0:=by decide +kernel
theorem aR5:sideErr aY3 2=0:=by decide +kernel
theorem aV4:aM3.map rvals=[[1,1],[2,2]]:=by decide +kernel
theorem aV5:rvals aB3=[1,3]:=by decide +kernel
theorem aV6:rvals aY3=[-2,1]:=by decide +kernel
theorem aK1:kerB 3 [[1,2,3],[2,4,7]]=true:=by decide +kernel
theorem aK2:kerL 3 [[1,2,3],[2,4,7]]=[[1,-1/2,0]]:=by decide +kernel
theorem aK3:AllShort [[1,-1/2,0]]:=by
 intro L hL q hq
 simp only[List.mem_singleton] at hL
 subst hL
 simp only[List.mem_cons,List.not_mem_nil,or_false] at hq
 rcases hq with rfl | rfl | rfl <;> decide +kernel
theorem aS1:solB 3 [[1,2,3],[2,4,7]] [4,9]=true:=by decide +kernel
theorem aS2:solL 3 [[1,2,3],[2,4,7]] [4,9]=[1,0,1]:=by decide +kernel
theorem aS3:3 ∉ (solS 3 [[1,2,3],[2,4,7]] [4,9]).cols:=by decide +kernel
theorem aD1:detB 2 [[1,2],[3,4]]=true:=by decide +kernel
theorem aD2:detM 2 [[1,2],[3,4]] = -2:=by decide +kernel
theorem aF1:refB 2 [[1,1],[2,2]] [1,3] [-2,1]=true:=by decide +kernel
theorem aF2:Refutes 2 [[1,1],[2,2]] [1,3] [-2,1]:=by
 intro j hj
 rcases j with _ | _ | _ | j
 ·decide +kernel
 ·decide +kernel
 ·decide +kernel
 ·omega
theorem dropT_step {α:Type} [DecidableEq α] {p q:List α} {k:Nat} (hk:k<p.length) (hl:p.length=q.length) (h:(decide (p.drop k=q.drop k))=decide (p=q)) (he:p[k]? =q[k]?):decide (p.drop (k+1)=q.drop (k+1))=decide (p=q):=by
 have hq:k<q.length:=by omega
 rw[List.getElem?_eq_getElem hk,List.getElem?_eq_getElem hq] at he
 have he:=Option.some.inj he
 have e1:p.drop k=p[k]::p.drop (k+1):=List.drop_eq_getElem_cons hk
 have e2:q.drop k=q[k]::q.drop (k+1):=List.drop_eq_getElem_cons hq
 rw[←h,e1,e2,he]
 exact decide_eq_decide.mpr ⟨fun h=>by rw[h],fun h=>(List.cons.inj h).2⟩
theorem dropT_diff {α:Type} [DecidableEq α] {p q:List α} {k:Nat} (he:p[k]? ≠q[k]?):decide (p=q)=false:=by
 simp only[decide_eq_false_iff_not]
 intro h;subst h;exact he rfl
theorem refSameTable_c (v u:Value) (P Q:List (List Int)) (w:World) (hv:TblW w v P) (hu:TblW w u Q):
  Calls Tryz.prog 54 #[v,u] w fun e w'=>e = .returned (.bool (decide (P=Q)))∧Below w.heap.size w w':=by
 obtain⟨vs,hvs,hvl,hvr⟩:=hv
 obtain⟨us,hus,hul,hur⟩:=hu
 obtain⟨A,c,rfl,hc1,hc2⟩:=hvs.form
 obtain⟨B,d,rfl,gc1,gc2⟩:=hus.form
 rw[hvl] at hvs hc1 hc2
 rw[hul] at hus gc1 gc2
 obtain⟨r,hr⟩:∃r,decide (P=Q)=r:=⟨_,rfl⟩
 have HR:=hid hr
 rw[hr,hvl,hul]
 by_cases hl:P.length=Q.length
 ·have hb:((P.length:Int) != (Q.length:Int))=false:=by rw[hl];simp
  have HL:=hid hl
  have HVR:=hid hvr
  have HUR:=hid hur
  clear hr hl hvr hur
  go_enter Tryz.func54,Tryz.ntmps54
  go_wp2_with fail
  go_loopg [5] P.length (fun g i wr=>∃(k:Nat),k+g=P.length∧i = .int .i64 k∧Hid (decide (P.drop k=Q.drop k)=decide (P=Q))∧Below w.heap.size w wr)
  case atStart=>exact⟨0,by omega,rfl,hid rfl,Below.refl _ _⟩
  case round=>
   obtain⟨k,hk,rfl,hD,hB⟩:=hrel
   cases gk with
   | zero=>
    have hin:¬((k:Int)<(P.length:Int)):=by omega
    have HT:Hid (r=true):=hid (by
     rw[←HR.out,←hD.out,List.drop_eq_nil_of_le (by omega),List.drop_eq_nil_of_le (by have:=HL.out;omega)];rfl)
    clear hk
    go_wp2
    go_ret
    exact⟨by rw[HT.out];rfl,hB⟩
   | succ g=>
    have hlt:k<P.length:=by omega
    have hlq:k<Q.length:=by have:=HL.out;omega
    obtain⟨v1,hv1,hs1⟩:=HVR.out k _ (List.getElem?_eq_getElem hlt)
    obtain⟨u1,hu1,ht1⟩:=HUR.out k _ (List.getElem?_eq_getElem hlq)
    obtain⟨b1,off1,rfl,hbb1,hcell1⟩:=hvs.at_ (k:=k) (by rw[hvl];omega)
    obtain⟨b2,off2,rfl,hbb2,hcell2⟩:=hus.at_ (k:=k) (by rw[hul];omega)
    have hck1:=(hB.cell (p:=⟨b1,off1+k,none⟩) hbb1).trans ((hcell1 k (by rw[hvl];omega)).trans hv1)
    have hck2:=(hB.cell (p:=⟨b2,off2+k,none⟩) hbb2).trans ((hcell2 k (by rw[hul];omega)).trans hu1)
    have Hstep:=hid (fun he=>dropT_step hlt HL.out hD.out he)
    have Hdiff:=hid (fun he=>dropT_diff (p:=P) (q:=Q) (k:=k) he)
    rw[List.getElem?_eq_getElem hlt,List.getElem?_eq_getElem hlq] at Hstep Hdiff
    have Hk:=hid hk
    have hbl1:=Nat.lt_of_lt_of_le hbb1 hB.size
    have hbl2:=Nat.lt_of_lt_of_le hbb2 hB.size
    have SI:=hid (fun (W:World) (hb:Below wr.heap.size wr W)=>refSameInts_c v1 u1 P[k] Q[k] W ((hs1.below hB).below hb) ((ht1.below hB).below hb))
    have KS:Hid (∀z,Below wr.heap.size wr z→z.cell? ⟨b1,off1+k,none⟩=some v1∧z.cell? ⟨b2,off2+k,none⟩=some u1∧Below wr.heap.size wr z):=hid (fun z hb=>
     ⟨(hb.cell (p:=⟨b1,off1+k,none⟩) hbl1).trans hck1,(hb.cell (p:=⟨b2,off2+k,none⟩) hbl2).trans hck2,hb⟩)
    have KT:=hid (fun (x x':World) (hb:Below x.heap.size x x') (h5:Below wr.heap.size wr x)=>KS.out x' (h5.trans (hb.mono h5.size)))
    have HB:=hid hB
    clear hcell1 hcell2 hvs hus hk hs1 ht1 hv1 hu1 hB hD
    generalize P[k]=x at *
    generalize Q[k]=y at *
    obtain⟨bb,hbb⟩:∃bb,decide (x=y)=bb:=⟨_,rfl⟩
    rw[hbb] at SI
    cases bb with
    | true=>
     have Hs:=hid (Hstep.out (by rw[of_decide_eq_true hbb]))
     clear hbb Hstep Hdiff
     go_wp2
     go_region_held3 (fun z=>z.cell? ⟨b1,off1+k,none⟩=some v1∧z.cell? ⟨b2,off2+k,none⟩=some u1∧Below wr.heap.size wr z)
      (first | exact KS.out _ (Below.refl _ _).drew | exact KT.out _ _ (by assumption) (by assumption))
      (first | (go_at_call 93;go_split_ands;refine(SI.out _ (by assumption)).mono ?_;rintro e4 w4 ⟨rfl,hB4⟩))
     have hB':Below w.heap.size w w4:=by go_split_ands;exact HB.out.trans (by rename_i h;exact h.mono HB.out.size)
     go_wp2
     go_roundg g
     case rel=>exact⟨k+1,by have:=Hk.out;omega,by go_num,Hs,hB'⟩
     case measure=>omega
    | false=>
     have Hs:=hid (Hdiff.out (fun h=>of_decide_eq_false hbb (Option.some.inj h)))
     clear hbb Hstep Hdiff
     have HF:Hid (r=false):=hid (by rw[←HR.out];exact Hs.out)
     go_wp2
     go_region_held3 (fun z=>z.cell? ⟨b1,off1+k,none⟩=some v1∧z.cell? ⟨b2,off2+k,none⟩=some u1∧Below wr.heap.size wr z)
      (first | exact KS.out _ (Below.refl _ _).drew | exact KT.out _ _ (by assumption) (by assumption))
      (first | (go_at_call 93;go_split_ands;refine(SI.out _ (by assumption)).mono ?_;rintro e4 w4 ⟨rfl,hB4⟩))
     have hB':Below w.heap.size w w4:=by go_split_ands;exact HB.out.trans (by rename_i h;exact h.mono HB.out.size)
     go_wp2
     go_ret
     exact⟨by rw[HF.out];rfl,hB'⟩
 ·have hb:((P.length:Int) != (Q.length:Int))=true:=by simpa using (by omega:¬(P.length:Int)=Q.length)
  have hne:P≠Q:=by intro h;subst h;exact hl rfl
  have HF:Hid (r=false):=hid (by rw[←hr];simpa using hne)
  clear hr hne hl
  go_enter Tryz.func54,Tryz.ntmps54
  go_wp2
  go_ret
  exact⟨by rw[HF.out];rfl,Below.refl _ _⟩
theorem dropT_step' {p q:List Txt} {k:Nat} (hk:k<p.length) (hl:p.length=q.length) (h:(decide (p.drop k=q.drop k))=decide (p=q)) (he:p[k]?.getD []=q[k]?.getD []):decide (p.drop (k+1)=q.drop (k+1))=decide (p=q):=by
 have hq:k<q.length:=by omega
 refine dropT_step hk hl h ?_
 rw[List.getElem?_eq_getElem hk,List.getElem?_eq_getElem hq] at he ⊢
 simp only[Option.getD_some] at he
 rw[he]
theorem dropT_diff' {p q:List Txt} {k:Nat} (he:p[k]?.getD []≠q[k]?.getD []):decide (p=q)=false:=
 dropT_diff (k:=k) (fun h=>he (by rw[h]))
theorem refSameRow_c (v u:Value) (p q:List Txt) (w:World) (hv:SlW w v (scells p)) (hu:SlW w u (scells q)):
  Calls Tryz.prog 101 #[v,u] w fun e w'=>e = .returned (.bool (decide (p=q)))∧Below w.heap.size w w':=by
 obtain⟨A,c,rfl,hc1,hc2⟩:=hv.form
 obtain⟨B,d,rfl,gc1,gc2⟩:=hu.form
 simp only[scells_length] at hc1 hc2 hv gc1 gc2 hu ⊢
 obtain⟨r,hr⟩:∃r,decide (p=q)=r:=⟨_,rfl⟩
 have HR:=hid hr
 rw[hr]
 by_cases hl:p.length=q.length
 ·have hb:((p.length:Int) != (q.length:Int))=false:=by rw[hl];simp
  have HL:=hid hl
  clear hr hl
  go_enter Tryz.func101,Tryz.ntmps101
  go_wp2_with fail
  go_loopg [5] p.length (fun g i wr=>∃(k:Nat),k+g=p.length∧i = .int .i64 k∧Hid (decide (p.drop k=q.drop k)=decide (p=q))∧Below w.heap.size w wr)
  case atStart=>exact⟨0,by omega,rfl,hid rfl,Below.refl _ _⟩
  case round=>
   obtain⟨k,hk,rfl,hD,hB⟩:=hrel
   cases gk with
   | zero=>
    have hin:¬((k:Int)<(p.length:Int)):=by omega
    have HT:Hid (r=true):=hid (by
     rw[←HR.out,←hD.out,List.drop_eq_nil_of_le (by omega),List.drop_eq_nil_of_le (by have:=HL.out;omega)];rfl)
    clear hk
    go_wp2
    go_ret
    exact⟨by rw[HT.out];rfl,hB⟩
   | succ g=>
    have hlt:k<p.length:=by omega
    have hlq:k<q.length:=by have:=HL.out;omega
    obtain⟨b1,off1,rfl,hbb1,hcell1⟩:=hv.at_ (k:=k) (by rw[scells_length];omega)
    obtain⟨b2,off2,rfl,hbb2,hcell2⟩:=hu.at_ (k:=k) (by rw[scells_length];omega)
    have hck1:=(hB.cell (p:=⟨b1,off1+k,none⟩) hbb1).trans ((hcell1 k (by rw[scells_length];omega)).trans (scells_at p k hlt))
    have hck2:=(hB.cell (p:=⟨b2,off2+k,none⟩) hbb2).trans ((hcell2 k (by rw[scells_length];omega)).trans (scells_at q k hlq))
    have Hstep:=hid (fun he=>dropT_step' hlt HL.out hD.out he)
    have Hdiff:=hid (fun he=>dropT_diff' (p:=p) (q:=q) (k:=k) he)
    have Hk:=hid hk
    clear hcell1 hcell2 hv hu hk
    generalize p[k]?.getD []=x at *
    generalize q[k]?.getD []=y at *
    unfold sv at hck1 hck2
    by_cases he:x=y
    ·have Hs:=hid (Hstep.out he)
     have hxy:(x==y)=true:=by simpa using he
     clear he
     go_wp2
     go_quiet (fail)
     have hB':=below_drewN hB nq
     go_wp2
     go_roundg g
     case rel=>exact⟨k+1,by have:=Hk.out;omega,by go_num,Hs,hB'⟩
     case measure=>omega
    ·have Hs:=hid (Hdiff.out he)
     have hxy:(x==y)=false:=by simpa using he
     clear he
     have HF:Hid (r=false):=hid (by rw[←HR.out];exact Hs.out)
     go_wp2
     go_quiet (fail)
     have hB':=below_drewN hB nq
     go_wp2
     go_ret
     exact⟨by rw[HF.out];rfl,hB'⟩
 ·have hb:((p.length:Int) != (q.length:Int))=true:=by simpa using (by omega:¬(p.length:Int)=q.length)
  have hne:p≠q:=by intro h;subst h;exact hl rfl
  have HF:Hid (r=false):=hid (by rw[←hr];simpa using hne)
  clear hr hne hl
  go_enter Tryz.func101,Tryz.ntmps101
  go_wp2
  go_ret
  exact⟨by rw[HF.out];rfl,Below.refl _ _⟩
theorem refSameMatrix_c (v u:Value) (P Q:List (List Txt)) (w:World) (hv:TblT w v P) (hu:TblT w u Q):
  Calls Tryz.prog 99 #[v,u] w fun e w'=>e = .returned (.bool (decide (P=Q)))∧Below w.heap.size w w':=by
 obtain⟨vs,hvs,hvl,hvr⟩:=hv
 obtain⟨us,hus,hul,hur⟩:=hu
 obtain⟨A,c,rfl,hc1,hc2⟩:=hvs.form
 obtain⟨B,d,rfl,gc1,gc2⟩:=hus.form
 rw[hvl] at hvs hc1 hc2
 rw[hul] at hus gc1 gc2
 obtain⟨r,hr⟩:∃r,decide (P=Q)=r:=⟨_,rfl⟩
 have HR:=hid hr
 rw[hr,hvl,hul]
 by_cases hl:P.length=Q.length
 ·have hb:((P.length:Int) != (Q.length:Int))=false:=by rw[hl];simp
  have HL:=hid hl
  have HVR:=hid hvr
  have HUR:=hid hur
  clear hr hl hvr hur
  go_enter Tryz.func99,Tryz.ntmps99
  go_wp2_with fail
  go_loopg [5] P.length (fun g i wr=>∃(k:Nat),k+g=P.length∧i = .int .i64 k∧Hid (decide (P.drop k=Q.drop k)=decide (P=Q))∧Below w.heap.size w wr)
  case atStart=>exact⟨0,by omega,rfl,hid rfl,Below.refl _ _⟩
  case round=>
   obtain⟨k,hk,rfl,hD,hB⟩:=hrel
   cases gk with
   | zero=>
    have hin:¬((k:Int)<(P.length:Int)):=by omega
    have HT:Hid (r=true):=hid (by
     rw[←HR.out,←hD.out,List.drop_eq_nil_of_le (by omega),List.drop_eq_nil_of_le (by have:=HL.out;omega)];rfl)
    clear hk
    go_wp2
    go_ret
    exact⟨by rw[HT.out];rfl,hB⟩
   | succ g=>
    have hlt:k<P.length:=by omega
    have hlq:k<Q.length:=by have:=HL.out;omega
    obtain⟨v1,hv1,hs1⟩:=HVR.out k _ (List.getElem?_eq_getElem hlt)
    obtain⟨u1,hu1,ht1⟩:=HUR.out k _ (List.getElem?_eq_getElem hlq)
    obtain⟨b1,off1,rfl,hbb1,hcell1⟩:=hvs.at_ (k:=k) (by rw[hvl];omega)
    obtain⟨b2,off2,rfl,hbb2,hcell2⟩:=hus.at_ (k:=k) (by rw[hul];omega)
    have hck1:=(hB.cell (p:=⟨b1,off1+k,none⟩) hbb1).trans ((hcell1 k (by rw[hvl];omega)).trans hv1)
    have hck2:=(hB.cell (p:=⟨b2,off2+k,none⟩) hbb2).trans ((hcell2 k (by rw[hul];omega)).trans hu1)
    have Hstep:=hid (fun he=>dropT_step hlt HL.out hD.out he)
    have Hdiff:=hid (fun he=>dropT_diff (p:=P) (q:=Q) (k:=k) he)
    rw[List.getElem?_eq_getElem hlt,List.getElem?_eq_getElem hlq] at Hstep Hdiff
    have Hk:=hid hk
    have hbl1:=Nat.lt_of_lt_of_le hbb1 hB.size
    have hbl2:=Nat.lt_of_lt_of_le hbb2 hB.size
    have SI:=hid (fun (W:World) (hb:Below wr.heap.size wr W)=>refSameRow_c v1 u1 P[k] Q[k] W ((hs1.below hB).below hb) ((ht1.below hB).below hb))
    have KS:Hid (∀z,Below wr.heap.size wr z→z.cell? ⟨b1,off1+k,none⟩=some v1∧z.cell? ⟨b2,off2+k,none⟩=some u1∧Below wr.heap.size wr z):=hid (fun z hb=>
     ⟨(hb.cell (p:=⟨b1,off1+k,none⟩) hbl1).trans hck1,(hb.cell (p:=⟨b2,off2+k,none⟩) hbl2).trans hck2,hb⟩)
    have KT:=hid (fun (x x':World) (hb:Below x.heap.size x x') (h5:Below wr.heap.size wr x)=>KS.out x' (h5.trans (hb.mono h5.size)))
    have HB:=hid hB
    clear hcell1 hcell2 hvs hus hk hs1 ht1 hv1 hu1 hB hD
    generalize P[k]=x at *
    generalize Q[k]=y at *
    obtain⟨bb,hbb⟩:∃bb,decide (x=y)=bb:=⟨_,rfl⟩
    rw[hbb] at SI
    cases bb with
    | true=>
     have Hs:=hid (Hstep.out (by rw[of_decide_eq_true hbb]))
     clear hbb Hstep Hdiff
     go_wp2
     go_region_held3 (fun z=>z.cell? ⟨b1,off1+k,none⟩=some v1∧z.cell? ⟨b2,off2+k,none⟩=some u1∧Below wr.heap.size wr z)
      (first | exact KS.out _ (Below.refl _ _).drew | exact KT.out _ _ (by assumption) (by assumption))
      (first | (go_at_call 101;go_split_ands;refine(SI.out _ (by assumption)).mono ?_;rintro e4 w4 ⟨rfl,hB4⟩))
     have hB':Below w.heap.size w w4:=by go_split_ands;exact HB.out.trans (by rename_i h;exact h.mono HB.out.size)
     go_wp2
     go_roundg g
     case rel=>exact⟨k+1,by have:=Hk.out;omega,by go_num,Hs,hB'⟩
     case measure=>omega
    | false=>
     have Hs:=hid (Hdiff.out (fun h=>of_decide_eq_false hbb (Option.some.inj h)))
     clear hbb Hstep Hdiff
     have HF:Hid (r=false):=hid (by rw[←HR.out];exact Hs.out)
     go_wp2
     go_region_held3 (fun z=>z.cell? ⟨b1,off1+k,none⟩=some v1∧z.cell? ⟨b2,off2+k,none⟩=some u1∧Below wr.heap.size wr z)
      (first | exact KS.out _ (Below.refl _ _).drew | exact KT.out _ _ (by assumption) (by assumption))
      (first | (go_at_call 101;go_split_ands;refine(SI.out _ (by assumption)).mono ?_;rintro e4 w4 ⟨rfl,hB4⟩))
     have hB':Below w.heap.size w w4:=by go_split_ands;exact HB.out.trans (by rename_i h;exact h.mono HB.out.size)
     go_wp2
     go_ret
     exact⟨by rw[HF.out];rfl,hB'⟩
 ·have hb:((P.length:Int) != (Q.length:Int))=true:=by simpa using (by omega:¬(P.length:Int)=Q.length)
  have hne:P≠Q:=by intro h;subst h;exact hl rfl
  have HF:Hid (r=false):=hid (by rw[←hr];simpa using hne)
  clear hr hne hl
  go_enter Tryz.func99,Tryz.ntmps99
  go_wp2
  go_ret
  exact⟨by rw[HF.out];rfl,Below.refl _ _⟩
def SeqQ {α:Type} (P:Program) (gf:Nat) (lb:Array Value) (xs:List α) (Pr:Nat→α→Value→World→Prop) (Kp:Nat→World→World→Prop) (W:World):Prop:=
 ∀(l:Nat) (J:List α→World→Prop),
  (∀pre A A',J pre A→But W.heap.size A A'→J pre A') →
  (∀pre x post v A,xs=pre++x::post→J pre A→W.heap.size<A.heap.size→Pr W.heap.size x v A →
   YieldAt Fence.wide 2 P l #[v] A fun e A'=>e = .returned (.bool true)∧J (pre++[x]) A'∧Kp W.heap.size A A') →
  J [] W →
  CallsIn Fence.wide 3 P gf (#[.func (.yield l) #[] #[]]++lb) W fun e W'=>(∃v,e = .returned v)∧J xs W'
def bodyQ (b:Nat) (R:World→World→Prop) (A:World):Exit→Act→World→Prop
 | .normal,_,A'=>A'.heap[b]? =A.heap[b]? ∧A'.heap[b+1]? =A.heap[b+1]? ∧R A A'
 | _,_,_=>False
theorem range_own {α:Type} {P:Program} {g:Operand} {ps:Array Tmp} {assign body:Code} {Q:Exit→Act→World→Prop} {a:Act} {w:World} {gf:Nat} {lb:Array Value} {xs:List α} {Pr:Nat→α→Value→World→Prop} {Kp:Nat→World→World→Prop}
  (hg:a.eval g = .func (.func gf) #[] lb) (eg:∀args w,(callFunc gf args).run P w = .ok (.enter gf args) w)
  (hseq:∀W,Below w.heap.size w W→W.heap.size=w.heap.size+2→SeqQ P gf lb xs Pr Kp W) (hps:ps.size=1)
  (I:List α→World→Prop) (hI:∀pre A A',I pre A→But (w.heap.size+2) A A'→I pre A') (hI2:∀pre A l o,I pre A→l=w.heap.size+1→l<A.heap.size→I pre (A.putObj l o))
  (hKt:∀A B C,Kp (w.heap.size+2) A B→Kp (w.heap.size+2) B C→Kp (w.heap.size+2) A C) (hKb:∀A o,w.heap.size+1<A.heap.size→Kp (w.heap.size+2) A (A.putObj (w.heap.size+1) o))
  (hPr:∀x v A o,w.heap.size+1<A.heap.size→Pr (w.heap.size+2) x v A→Pr (w.heap.size+2) x v (A.putObj (w.heap.size+1) o))
  (h0:∀o1 o2,I [] ((w.alloc o1).alloc o2)) (a₁:Value→Act)
  (hassign:∀(l:Nat) (v:Value) (W:World) (K:Act→World→Prop),K (a₁ v) W →
   assign.wpIn (Fence.wide.inRound l) 2 P (Exit.then K fun _ _ _=>False) { tmps:=(ps.zip #[v]).foldl (fun t (p,v)=>t.setIfInBounds p v) a.tmps,defers:=[] } W)
  (hbody:∀(l:Nat) pre x post v A,xs=pre++x::post→I pre A→w.heap.size+2<A.heap.size→Pr (w.heap.size+2) x v A →
   body.wpIn (Fence.wide.inRound l) 2 P (bodyQ w.heap.size (fun A A'=>I (pre++[x]) A'∧Kp (w.heap.size+2) A A') A) (a₁ v) A)
  (hdone:∀W,I xs W→W.heap[w.heap.size]? =some (.deferred (some []))→Q .normal { a with defers:= { target:= .collected w.heap.size,args:= #[] } ::a.defers } W):
  (Code.rangeFunc g ps assign body).wpIn Fence.wide 4 P Q a w:=by
 refine wpIn_rangeFunc fun fn hfn=> ?_
 generalize hrec:(fun st pe=>({ state:=st,pending:=pe,fn,tmps:=a.tmps,params:=ps,assign,body,defers:=w.heap.size } :Loop))=rec
 have hrec':∀st pe,rec st pe = { state:=st,pending:=pe,fn,tmps:=a.tmps,params:=ps,assign,body,defers:=w.heap.size } :=fun st pe=>by rw[←hrec]
 clear hrec
 obtain⟨W1,hW1⟩:∃W1,W1=(w.alloc (.deferred (some []))).alloc (.loop (rec .ready none)):=⟨_,rfl⟩
 have hs1:W1.heap.size=w.heap.size+2:=by rw[hW1];simp
 have hL1:W1.heap[w.heap.size+1]? =some (.loop (rec .ready none)):=by
  rw[hW1];have:=World.alloc_heap_new (w.alloc (.deferred (some []))) (.loop (rec .ready none));rwa [World.size_alloc] at this
 have hD1:W1.heap[w.heap.size]? =some (.deferred (some [])):=by
  rw[hW1];exact(Below.heap_alloc _ _ _ (by simp)).trans (World.alloc_heap_new w _)
 have hB1:Below w.heap.size w W1:=by rw[hW1];exact((Below.refl _ w).alloc (Nat.le_refl _) _).alloc (by simp) _
 have hI1:I [] W1:=by rw[hW1];exact h0 _ _
 refine⟨w.heap.size+1,[{ target:= .collected w.heap.size,args:= #[] }],W1,{ target:= .fn (.func gf) lb,args:= #[.func (.yield (w.heap.size+1)) #[] #[]] },W1,gf,
  #[.func (.yield (w.heap.size+1)) #[] #[]]++lb,W1,?_,?_,fun _ _=>trivial,?_,(fun h=>by cases h),?_⟩
 ·rw[hW1,hrec'];exact run_enterLoop_outer _ _ _ _ _
 ·simp only[resolve,hg]
  simp[go_sem]
 ·simp[invoke,go_sem,eg]
 have hq:=hseq W1 hB1 hs1 (w.heap.size+1) (fun pre A=>I pre A∧A.heap[w.heap.size+1]? =some (.loop (rec .ready none))∧A.heap[w.heap.size]? =some (.deferred (some [])))
 rw[hs1] at hq
 refine(hq ?_ ?_ ⟨hI1,hL1,hD1⟩).mono ?_
 ·rintro pre A A' ⟨hi,hl,hd⟩ hb
  have h1:=(Array.getElem?_eq_some_iff.1 hl).1
  exact⟨hI _ _ _ hi hb,(hb.block _ h1 (by omega)).trans hl,(hb.block _ (by omega) (by omega)).trans hd⟩
 ·rintro pre x post v A hx ⟨hi,hl,hd⟩ hlt hp
  have h1:=(Array.getElem?_eq_some_iff.1 hl).1
  have hy:=run_yield (P:=P) (args:= #[v]) hl (by rw[hrec'];simp[hps])
  rw[hrec'] at hy
  refine⟨fn,_,assign,body,hy,roundIn_of_wpIn trivial (hassign _ v A _ ⟨_,run_beginRound hl (by rw[hrec']),?_⟩)⟩
  obtain⟨A2,hA2⟩:∃A2,A2=A.putObj (w.heap.size+1) (.loop { rec .ready none with state:= .busy }):=⟨_,rfl⟩
  have hl2:A2.heap[w.heap.size+1]? =some (.loop { rec .ready none with state:= .busy }):=by rw[hA2];exact World.putObj_heap_same h1
  have hd2:A2.heap[w.heap.size]? =some (.deferred (some [])):=by rw[hA2];exact(World.putObj_heap_other (by omega)).trans hd
  have hk2:Kp (w.heap.size+2) A A2:=by rw[hA2];exact hKb _ _ h1
  have hi2:I pre A2:=by rw[hA2];exact hI2 _ _ _ _ hi rfl h1
  have hp2:Pr (w.heap.size+2) x v A2:=by rw[hA2];exact hPr _ _ _ _ h1 hp
  have hs2:A2.heap.size=A.heap.size:=by rw[hA2];simp[World.putObj]
  rw[←hA2]
  refine wpIn_mono (hbody _ pre x post v A2 hx hi2 (by omega) hp2) ?_
  rintro e a3 W3 hq3
  cases e with
  | normal=>
   obtain⟨q1,q2,hi3,hk3⟩:=hq3
   have hl3:=q2.trans hl2
   have h3:=(Array.getElem?_eq_some_iff.1 hl3).1
   have hr:=run_endRound (P:=P) none hl3
   refine⟨_,_,hr,rfl,⟨hI2 _ _ _ _ hi3 rfl h3,?_,(World.putObj_heap_other (by omega)).trans (q1.trans hd2)⟩,hKt _ _ _ (hKt _ _ _ hk2 hk3) (hKb _ _ h3)⟩
   rw[World.putObj_heap_same h3,hrec']
   rfl
  | ret=>exact hq3.elim
  | exit id=>exact hq3.elim
  | goto t=>exact hq3.elim
  | panic ch=>exact hq3.elim
  | outgrown=>exact hq3.elim
 ·rintro e W2 ⟨⟨v,rfl⟩,hi,hl,hd⟩
  have h1:=(Array.getElem?_eq_some_iff.1 hl).1
  have he:=run_endLoop (P:=P) hl (by rw[hrec'];simp)
  rw[hrec'] at he
  exact⟨none,_,he,hdone _ (hI2 _ _ _ _ hi rfl h1) ((World.putObj_heap_other (by omega)).trans hd)⟩
def follow (p:List Int):Nat→List Bool→Nat→List Int×List Bool
 | 0,s,_=>([],s)
 | f+1,s,i=>if s[i]?.getD true=true then ([],s) else ((i:Int)::(follow p f (s.set i true) (p[i]?.getD 0).toNat).1,(follow p f (s.set i true) (p[i]?.getD 0).toNat).2)
def cycTo (p:List Int):Nat→List (List Int)×List Bool
 | 0=>([],List.replicate p.length false)
 | k+1=>if (cycTo p k).2[k]?.getD true=true then cycTo p k else ((cycTo p k).1++[(follow p p.length (cycTo p k).2 k).1],(follow p p.length (cycTo p k).2 k).2)
def cycs (p:List Int):List (List Int):=(cycTo p p.length).1
def unseen (s:List Bool):Nat:=s.countP (· ==false)
theorem unseen_le (s:List Bool):unseen s≤s.length:=List.countP_le_length
theorem unseen_set:∀(s:List Bool) (i:Nat),s[i]? =some false→unseen (s.set i true)+1=unseen s
 | [],i,h=>by simp at h
 | x::s,0,h=>by simp at h;subst h;simp[unseen]
 | x::s,i+1,h=>by
  have:=unseen_set s i (by simpa using h)
  unfold unseen at *
  rw[List.set_cons_succ,List.countP_cons,List.countP_cons];omega
theorem follow_len (p:List Int):∀(f:Nat) (s:List Bool) (i:Nat),(follow p f s i).2.length=s.length
 | 0,s,i=>rfl
 | f+1,s,i=>by
  rw[follow];split
  ·rfl
  ·simp[follow_len p f]
theorem follow_seen (p:List Int) (f:Nat) (s:List Bool) (i:Nat) (h:s[i]?.getD true=true):follow p f s i=([],s):=by
 cases f with
 | zero=>rfl
 | succ f=>rw[follow,if_pos h]
theorem cycTo_len (p:List Int):∀k,(cycTo p k).2.length=p.length
 | 0=>by simp[cycTo]
 | k+1=>by
  rw[cycTo];split
  ·exact cycTo_len p k
  ·rw[follow_len];exact cycTo_len p k
theorem cycTo_pre (p:List Int) (k:Nat):∀m,∃t,(cycTo p (k+m)).1=(cycTo p k).1++t
 | 0=>⟨[],by simp⟩
 | m+1=>by
  obtain⟨t,ht⟩:=cycTo_pre p k m
  rw[←Nat.add_assoc,cycTo]
  split
  ·exact⟨t,ht⟩
  ·exact⟨t++[(follow p p.length (cycTo p (k+m)).2 (k+m)).1],by rw[ht];simp⟩
theorem cycs_split (p:List Int) {k:Nat} (hk:k<p.length) (h:(cycTo p k).2[k]?.getD true=false):
  ∃post,cycs p=(cycTo p k).1++(follow p p.length (cycTo p k).2 k).1::post:=by
 obtain⟨t,ht⟩:=cycTo_pre p (k+1) (p.length-(k+1))
 rw[show k+1+(p.length-(k+1))=p.length by omega] at ht
 unfold cycs
 rw[ht,cycTo,if_neg (by rw[h];decide)]
 exact⟨t,by simp⟩
end Go.Proofs.YtneafcdfnhnpnaaGreatDoor
namespace Go.Proofs.YtneafcdfnhnpnaaGreatDoor
open Go.RowKit Go.Lib Go.Shelf
attribute [local go_sem] Oper.semAt_some
def RdP (p:List Int) (A:Option Addr) (b0 off:Nat) (w:World):Prop:=b0<w.heap.size ∧ ∀j u,(icells p)[j]? =some u→A=some ⟨b0,off,none⟩∧w.cell? ⟨b0,off+j,none⟩=some u
def PrC (sb:Nat) (x:List Int) (v:Value) (w:World):Prop:=∃base,sb<base∧base≤w.heap.size∧w.ownsRow base 3 1 v x.length (icells x)∧x≠[]
def KpC (Bp b0 sb:Nat) (w w':World):Prop:=w.heap.size≤w'.heap.size∧w'.heap[sb]? =w.heap[sb]? ∧w'.heap[Bp]? =w.heap[Bp]? ∧w'.heap[b0]? =w.heap[b0]?
theorem KpC.trans {Bp b0 sb:Nat} {a b c:World} (h:KpC Bp b0 sb a b) (k:KpC Bp b0 sb b c):KpC Bp b0 sb a c:=
 ⟨Nat.le_trans h.1 k.1,k.2.1.trans h.2.1,k.2.2.1.trans h.2.2.1,k.2.2.2.trans h.2.2.2⟩
theorem But.grownQ {g:Nat} {w a b:World} {row:Option Nat} (h:But g w a) (hg:a.grownBy b row) (hr:∀k,row=some k→w.heap.size≤k):But g w b:=
 ⟨hg.os.trans h.os,hg.tape.trans h.tape,hg.output.trans h.output,Nat.le_trans h.size hg.size,fun k hk hne=>(hg.block k (Nat.lt_of_lt_of_le hk h.size) (fun e=>by have:=hr k e.symm;omega)).trans (h.block k hk hne)⟩
theorem But.allocQ {g:Nat} {w a:World} (h:But g w a) (o:Obj):But g w (a.alloc o):=
 ⟨h.os,h.tape,h.output,by simp;have:=h.size;omega,fun k hk hne=>(Below.heap_alloc a o k (Nat.lt_of_lt_of_le hk h.size)).trans (h.block k hk hne)⟩
theorem RdP.same {p:List Int} {A:Option Addr} {b0 off:Nat} {w w':World} (h:RdP p A b0 off w) (hs:w.heap.size≤w'.heap.size) (hb:w'.heap[b0]? =w.heap[b0]?):RdP p A b0 off w':=
 ⟨Nat.lt_of_lt_of_le h.1 hs,fun j u hu=>⟨(h.2 j u hu).1,(World.cell?_of_block (a:=⟨b0,off+j,none⟩) hb).trans (h.2 j u hu).2⟩⟩
theorem cycles_in (p:List Int) (A:Option Addr) (c Bp b0 off:Nat) (hp:PermL p) (hl:p.length≤256) (W:World) (hbox:W.cell? ⟨Bp,0,none⟩=some (.slice A p.length c)) (hBp:Bp<W.heap.size) (hR:RdP p A b0 off W):
  SeqQ Tryz.prog 191 #[.pointer (some ⟨Bp,0,none⟩)] (cycs p) PrC (KpC Bp b0) W:=by
 intro l J hJ hY h0
 obtain⟨i0,hi0,hz0,hz1,hz2⟩:=info_parts info_int
 have HJ:=hid hJ
 have HY:=hid hY
 have HR:=hid hR
 have HP:=hid hp
 have hmk:=make_bools W p.length (by omega)
 clear hJ hY hR hp
 refine callsIn_of_wp Tryz.func191 rfl trivial ?_ rfl
 simp only[Tryz.ntmps191,List.size_toArray,List.length_cons,List.length_nil,Nat.reduceAdd,Nat.reduceSub,Array.replicate_succ,Array.replicate_zero,List.push_toArray,List.append_toArray,List.nil_append,List.cons_append]
 gi_wp2
 gi_loopg [12] p.length (fun gh ix wr=>∃k:Nat,ix = .int .i64 k∧k+gh=p.length∧Hid (J (cycTo p k).1 wr)∧Hid (Own wr W.heap.size 4 (bcells (cycTo p k).2))∧Hid (wr.cell? ⟨Bp,0,none⟩=some (.slice A p.length c))∧Hid (RdP p A b0 off wr))
 case atStart=>
  have hB:=(Below.refl W.heap.size W).alloc (Nat.le_refl _) (.cells (bcells (List.replicate p.length false)).toArray 4)
  exact⟨0,rfl,by omega,hid (HJ.out [] W _ h0 ((But.refl _ _).allocQ _)),hid (Own.make _ _ _),hid ((hB.cell (p:=⟨Bp,0,none⟩) hBp).trans hbox),hid (HR.out.same hB.size (Below.heap_alloc _ _ _ HR.out.1))⟩
 case round=>
  obtain⟨k,rfl,hk,hJk,hO,hBx,hRd⟩:=hrel
  generalize wr=wb at *
  have hcl:=cycTo_len p k
  clear hmk
  cases gk with
  | zero=>
   have hin:¬((k:Int)<(p.length:Int)):=by omega
   have hkk:k=p.length:=by omega
   subst hkk
   clear hcl hO hBx hRd
   gi_wp2
   go_end0
   exact⟨⟨_,rfl⟩,hJk.out⟩
  | succ gh=>
   have hlt:k<p.length:=by omega
   have hlt':(k:Int)<(p.length:Int):=by omega
   have hck:=(hO.out.cell k).trans (bcells_at (cycTo p k).2 k (by omega))
   have hsb:=hO.out.lt
   cases hs:(cycTo p k).2[k]?.getD true with
   | true=>
    have hs2:(cycTo p k).2[k]?.getD false=true:=by
     rw[List.getElem?_eq_getElem (by omega)] at hs ⊢;exact hs
    have hstep:cycTo p (k+1)=cycTo p k:=by rw[cycTo,if_pos hs]
    rw[hs2] at hck
    have HT:Hid (cycTo p (k+1)=cycTo p k):=hid hstep
    clear hs hs2 hstep hcl
    gi_wp2
    gi_roundg gh
    case rel=>exact⟨k+1,by go_num,by omega,by rw[HT.out];exact hJk,by rw[HT.out];exact hO,hBx,hRd⟩
    case measure=>omega
   | false=>
    have hs2:(cycTo p k).2[k]?.getD false=false:=by
     rw[List.getElem?_eq_getElem (by omega)] at hs ⊢;exact hs
    obtain⟨post,hpost⟩:=cycs_split p hlt hs
    rw[hs2] at hck
    have HS:=hid hs
    clear hs hs2
    have HF:Hid (follow p p.length (cycTo p k).2 k=(follow p p.length (cycTo p k).2 k)):=hid rfl
    have HSl:=hid hcl
    have hb0:=HR.out.1
    generalize hS0:(cycTo p k).2=S0 at *
    gi_wp2
    gi_loopg [5,6] p.length (fun gh2 cv iv wx=>∃(C:List Int) (s:List Bool) (i:Nat),iv = .int .i64 i∧i<p.length∧C.length+gh2=p.length∧Hid (follow p p.length S0 k=(C++(follow p gh2 s i).1,(follow p gh2 s i).2))∧Hid (unseen s≤gh2)∧s.length=p.length∧Hid (Own wx W.heap.size 4 (bcells s))∧Hid (wx.ownsRow wb.heap.size 3 1 cv C.length (icells C))∧Hid (But W.heap.size wb wx))
    case atStart=>exact⟨[],S0,k,rfl,hlt,by simp,hid (by simp),hid (by have:=unseen_le S0;omega),hcl,hO,hid (World.ownsRow_nil _ _ _ _),hid (But.refl _ _)⟩
    case round=>
     obtain⟨C,s,i,rfl,hi,hC,hF,hU,hsl,hOs,hcv,hW⟩:=hrel
     have hci:=(hOs.out.cell i).trans (bcells_at s i (by omega))
     have hfr:=hOs.out.free i
     have hwsz:=hW.out.size
     cases hs:s[i]?.getD true with
     | true=>
      have hs2:s[i]?.getD false=true:=by
       rw[List.getElem?_eq_getElem (by omega)] at hs ⊢;exact hs
      rw[hs2] at hci
      have hfs:=hF.out
      rw[follow_seen p gk s i hs,List.append_nil] at hfs
      have hJx:=HJ.out _ _ _ hJk.out hW.out
      have hne:C≠[]:=by
       rintro rfl
       have:(follow p p.length S0 k).1=[]:=by rw[hfs]
       rw[show p.length=gh+k+1 by omega,follow,if_neg (by rw[HS.out];decide)] at this
       cases this
      have hC1:(cycTo p (k+1))=((cycTo p k).1++[C],s):=by rw[cycTo,hS0,if_neg (by rw[HS.out];decide),hfs]
      obtain⟨fn,tmps,assign,body,hy,hRd2⟩:=HY.out (cycTo p k).1 C post u5 wr (by rw[hpost,hfs]) hJx (by omega) ⟨wb.heap.size,by omega,hwsz,hcv.out,hne⟩
      have HC1:=hid hC1
      have HBx2:=hid (((World.cell?_of_block (a:=⟨Bp,0,none⟩) (hW.out.block Bp (by omega) (by omega))).trans hBx.out))
      have HRd2:=hid (hRd.out.same hwsz (hW.out.block b0 (by omega) (by omega)))
      clear hs hs2 hfs hne hC1 hJx hpost hF hU hcv hBx hRd
      gi_wp2
      refine hRd2.mono ?_
      rintro e W3 ⟨rfl,hJ3,hk3⟩
      have HJ3:=hid hJ3
      have HK3:=hid hk3
      clear hJ3 hk3 hRd2
      gi_wp2
      gi_roundg gh
      case rel=>
       refine⟨k+1,by go_num,by omega,?_,?_,?_,?_⟩
       ·rw[HC1.out];exact HJ3
       ·rw[HC1.out];exact hid (HK3.out.2.1.trans hOs.out)
       ·exact hid ((World.cell?_of_block (a:=⟨Bp,0,none⟩) HK3.out.2.2.1).trans HBx2.out)
       ·exact hid (HRd2.out.same HK3.out.1 HK3.out.2.2.2)
      case measure=>omega
     | false=>
      have hs2:s[i]?.getD false=false:=by
       rw[List.getElem?_eq_getElem (by omega)] at hs ⊢;exact hs
      have hs3:s[i]? =some false:=by
       rw[List.getElem?_eq_getElem (by omega)] at hs ⊢;exact congrArg some hs
      rw[hs2] at hci
      cases gk with
      | zero=>have:=unseen_set s i hs3;have:=hU.out;omega
      | succ g2=>
       have hU2:Hid (unseen (s.set i true)≤g2):=hid (by have:=unseen_set s i hs3;have:=hU.out;omega)
       have hpi:=HP.out.1 (p[i]?.getD 0) (by rw[List.getElem?_eq_getElem hi];exact List.getElem_mem hi)
       obtain⟨hA0,hpc⟩:=HR.out.2 i _ (icells_at p i hi)
       have hF2:=hF.out
       rw[follow,if_neg (by rw[hs];decide)] at hF2
       obtain⟨_,hpcb⟩:=hRd.out.2 i _ (icells_at p i hi)
       have hfrom:∀w2:World,But W.heap.size wb w2→w2.cell? ⟨Bp,0,none⟩=some (.slice A p.length c)∧w2.cell? ⟨b0,off+i,none⟩=some (.int .i64 (p[i]?.getD 0)):=fun w2 hb=>
        ⟨(World.cell?_of_block (a:=⟨Bp,0,none⟩) (hb.block Bp (by omega) (by omega))).trans hBx.out,(World.cell?_of_block (a:=⟨b0,off+i,none⟩) (hb.block b0 (by omega) (by omega))).trans hpcb⟩
       generalize p[i]?.getD 0=x at *
       obtain⟨j,rfl⟩:=Int.eq_ofNat_of_zero_le hpi.1
       have hjp:j<p.length:=by omega
       have HF2:Hid (follow p p.length S0 k=((C++[(i:Int)])++(follow p g2 (s.set i true) j).1,(follow p g2 (s.set i true) j).2)):=hid (by rw[hF2];simp)
       subst hA0
       have hkc:C.length<256:=by omega
       have HFR:=hid hfrom
       have HO2:=hid (show Own (wr.setCell ⟨W.heap.size,i,none⟩ (.bool true)) W.heap.size 4 (bcells (s.set i true)) from by rw[←bcells_set];exact hOs.out.put i _)
       have HW2:=hid (hW.out.setCell (p:=⟨W.heap.size,i,none⟩) rfl (.bool true))
       have HC2:=hid (show (wr.setCell ⟨W.heap.size,i,none⟩ (.bool true)).ownsRow wb.heap.size 3 1 u5 C.length (icells C) from oKeep hcv.out (fun k' _ e=>Below.heap_setCell _ _ _ _ (fun e2=>by have:=(hcv.out.lt k' e).1;dsimp only at e2;omega)))
       have hnew:∀(j':Nat) (u:Value),[Value.int .i64 (i:Int)][j']? =some u→((wr.setCell ⟨W.heap.size,i,none⟩ (.bool true)).alloc (.cells #[.int .i64 (i:Int)] 3)).cell? ((⟨wr.heap.size,0,none⟩:Addr).add j')=some u:=by
        have h:=cell_one_new (wr.setCell ⟨W.heap.size,i,none⟩ (.bool true)) (.int .i64 (i:Int)) 3
        have e:(wr.setCell ⟨W.heap.size,i,none⟩ (.bool true)).heap.size=wr.heap.size:=by simp
        rw[e] at h
        exact h
       have HN:=hid hnew
       clear hs hs2 hs3 hF hU hF2 hpc hpcb hfrom hpost hcv hOs hW hnew
       gi_wp2_with (gi_at_builtin;(refine wpListIn_append_own _ rfl _ _ 50 rfl wb.heap.size 3 i0 (.int .i64 0) 1 8 Tryz.underlying50 hi0 hz0 hz1 hz2 rfl (by decide) _ _ _ rfl (HC2.out.alloc _) ⟨wr.heap.size,0,none⟩ 1 1 [.int .i64 i] rfl rfl HN.out (fun x hx=>by simp at hx;subst hx;rfl) (by unfold maxLen;omega) (by omega) (by simp;omega) ?_;intro v' w1 hown' hgrow _;have hB1:=((HW2.out.allocQ (.cells #[.int .i64 (i:Int)] 3))).grownQ hgrow (fun k' e=>(HC2.out.lt k' e).1);obtain⟨hx1,hx2⟩:=HFR.out _ hB1;have HO3:=hid ((HO2.out.alloc (.cells #[.int .i64 (i:Int)] 3)).grown hgrow (fun e=>by have:=(HC2.out.lt _ e).1;omega));have HC3:=hid hown';have HB1:=hid hB1;clear hown' hgrow hB1))
       gi_roundg g2
       case rel=>
        exact⟨C++[(i:Int)],s.set i true,j,rfl,hjp,by simp;omega,HF2,hU2,by simpa using hsl,HO3,hid (by simpa [icells] using HC3.out),HB1⟩
       case measure=>omega
end Go.Proofs.YtneafcdfnhnpnaaGreatDoor
