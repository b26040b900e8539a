/- Contract: the iterator of cyclesOf. -/
import Derived.Test.YtneafcdfnhnpnaaGreatDoorZK29
import Derived.Sort.LoopGhostIn
import Derived.Shelf.RegionOpen
import Derived.OwnWalkIn
import Derived.LoopNIn
set_option maxRecDepth 100000
set_option maxHeartbeats 4000000
namespace Go.Proofs.YtneafcdfnhnpnaaGreatDoor
open Go.RowKit Go.Lib Go.Shelf
attribute [local go_sem] Oper.semAt_some
def x6 (p:List Int) (A:Option Addr) (b0 off:Nat) (w:World):Prop:=b0<w.heap.size ∧ ∀j u,(jc p)[j]? =some u→A=some ⟨b0,off,none⟩∧w.cell? ⟨b0,off+j,none⟩=some u
def Jl (sb:Nat) (x:List Int) (v:Value) (w:World):Prop:=∃base,sb<base∧base≤w.heap.size∧w.ownsRow base 3 1 v x.length (jc x)∧x≠[]
def xP (Bp b0 sb:Nat) (w w':World):Prop:=w.heap.size≤w'.heap.size∧w'.heap[sb]? =w.heap[sb]? ∧w'.heap[Bp]? =w.heap[Bp]? ∧w'.heap[b0]? =w.heap[b0]?
theorem xP.trans {Bp b0 sb:Nat} {a b c:World} (h:xP Bp b0 sb a b) (k:xP Bp b0 sb b c):xP Bp b0 sb a c:=
 ⟨Nat.le_trans h.1 k.1,k.2.1.trans h.2.1,k.2.2.1.trans h.2.2.1,k.2.2.2.trans h.2.2.2⟩
theorem jh.grownQ {g:Nat} {w a b:World} {row:Option Nat} (h:jh g w a) (hg:a.grownBy b row) (hr:∀k,row=some k→w.heap.size≤k):jh g w b:=
 ⟨hg.os.trans h.os,hg.tape.trans h.tape,hg.output.trans h.output,Nat.le_trans h.size hg.size,fun k hk hne=>(hg.block k (Nat.lt_of_lt_of_le hk h.size) (fun e=>by have:=hr k e.symm;omega)).trans (h.block k hk hne)⟩
theorem jh.allocQ {g:Nat} {w a:World} (h:jh g w a) (o:Obj):jh g w (a.alloc o):=
 ⟨h.os,h.tape,h.output,by simp;have:=h.size;omega,fun k hk hne=>(Below.heap_alloc a o k (Nat.lt_of_lt_of_le hk h.size)).trans (h.block k hk hne)⟩
theorem x6.same {p:List Int} {A:Option Addr} {b0 off:Nat} {w w':World} (h:x6 p A b0 off w) (hs:w.heap.size≤w'.heap.size) (hb:w'.heap[b0]? =w.heap[b0]?):x6 p A b0 off w':=
 ⟨Nat.lt_of_lt_of_le h.1 hs,fun j u hu=>⟨(h.2 j u hu).1,(World.cell?_of_block (a:=⟨b0,off+j,none⟩) hb).trans (h.2 j u hu).2⟩⟩
theorem Yw (p:List Int) (A:Option Addr) (c Bp b0 off:Nat) (hp:yu p) (hl:p.length≤256) (W:World) (hbox:W.cell? ⟨Bp,0,none⟩=some (.slice A p.length c)) (hBp:Bp<W.heap.size) (hR:x6 p A b0 off W):
  Uf Tryz.prog 191 #[.pointer (some ⟨Bp,0,none⟩)] (qF p) Jl (xP Bp b0) W:=by
 intro l J hJ hY h0;obtain⟨i0,hi0,hz0,hz1,hz2⟩:=info_parts yc;have HJ:=hid hJ;have HY:=hid hY;have HR:=hid hR;have HP:=hid hp;have hmk:=Y1 W p.length (by omega);clear hJ hY hR hp;refine callsIn_of_wp Tryz.func191 rfl trivial ?_ rfl;simp only[Tryz.ntmps191,List.size_toArray,List.length_cons,List.length_nil,Nat.reduceAdd,Nat.reduceSub,Array.replicate_succ,Array.replicate_zero,List.push_toArray,List.append_toArray,List.nil_append,List.cons_append]
 gi_wp2
 gi_loopg [12] p.length (fun gh ix wr=>∃k:Nat,ix = .int .i64 k∧k+gh=p.length∧Hid (J (jU p k).1 wr)∧Hid (ja wr W.heap.size 4 (xR (jU p k).2))∧Hid (wr.cell? ⟨Bp,0,none⟩=some (.slice A p.length c))∧Hid (x6 p A b0 off wr))
 case atStart=>
  have hB:=(Below.refl W.heap.size W).alloc (Nat.le_refl _) (.cells (xR (List.replicate p.length false)).toArray 4);exact⟨0,rfl,by omega,hid (HJ.out [] W _ h0 ((jh.refl _ _).allocQ _)),hid (ja.make _ _ _),hid ((hB.cell (p:=⟨Bp,0,none⟩) hBp).trans hbox),hid (HR.out.same hB.size (Below.heap_alloc _ _ _ HR.out.1))⟩
 case round=>
  obtain⟨k,rfl,hk,hJk,hO,hBx,hRd⟩:=hrel;generalize wr=wb at *;have hcl:=QS p k;clear hmk
  cases gk with
  | zero=>
   have hin:¬((k:Int)<(p.length:Int)):=by omega
   have hkk:k=p.length:=by omega
   subst hkk;clear hcl hO hBx hRd
   gi_wp2
   go_end0
   exact⟨⟨_,rfl⟩,hJk.out⟩
  | succ gh=>
   have hlt:k<p.length:=by omega
   have hlt':(k:Int)<(p.length:Int):=by omega
   have hck:=(hO.out.cell k).trans (QI (jU p k).2 k (by omega));have hsb:=hO.out.lt
   cases hs:(jU p k).2[k]?.getD true with
   | true=>
    have hs2:(jU p k).2[k]?.getD false=true:=by
     rw[List.getElem?_eq_getElem (by omega)] at hs ⊢;exact hs
    have hstep:jU p (k+1)=jU p k:=by rw[jU,if_pos hs]
    rw[hs2] at hck;have HT:Hid (jU p (k+1)=jU p k):=hid hstep;clear hs hs2 hstep hcl
    gi_wp2
    gi_roundg gh
    case rel=>exact⟨k+1,by go_num,by omega,by rw[HT.out];exact hJk,by rw[HT.out];exact hO,hBx,hRd⟩
    case measure=>omega
   | false=>
    have hs2:(jU p k).2[k]?.getD false=false:=by
     rw[List.getElem?_eq_getElem (by omega)] at hs ⊢;exact hs
    obtain⟨post,hpost⟩:=Se p hlt hs;rw[hs2] at hck;have HS:=hid hs;clear hs hs2;have HF:Hid (kL p p.length (jU p k).2 k=(kL p p.length (jU p k).2 k)):=hid rfl;have HSl:=hid hcl;have hb0:=HR.out.1;generalize hS0:(jU p k).2=S0 at *
    gi_wp2
    gi_loopg [5,6] p.length (fun gh2 cv iv wx=>∃(C:List Int) (s:List Bool) (i:Nat),iv = .int .i64 i∧i<p.length∧C.length+gh2=p.length∧Hid (kL p p.length S0 k=(C++(kL p gh2 s i).1,(kL p gh2 s i).2))∧Hid (JL s≤gh2)∧s.length=p.length∧Hid (ja wx W.heap.size 4 (xR s))∧Hid (wx.ownsRow wb.heap.size 3 1 cv C.length (jc C))∧Hid (jh W.heap.size wb wx))
    case atStart=>exact⟨[],S0,k,rfl,hlt,by simp,hid (by simp),hid (by have:=Ft S0;omega),hcl,hO,hid (World.ownsRow_nil _ _ _ _),hid (jh.refl _ _)⟩
    case round=>
     obtain⟨C,s,i,rfl,hi,hC,hF,hU,hsl,hOs,hcv,hW⟩:=hrel;have hci:=(hOs.out.cell i).trans (QI s i (by omega));have hfr:=hOs.out.free i;have hwsz:=hW.out.size
     cases hs:s[i]?.getD true with
     | true=>
      have hs2:s[i]?.getD false=true:=by
       rw[List.getElem?_eq_getElem (by omega)] at hs ⊢;exact hs
      rw[hs2] at hci;have hfs:=hF.out;rw[Tu p gk s i hs,List.append_nil] at hfs;have hJx:=HJ.out _ _ _ hJk.out hW.out
      have hne:C≠[]:=by
       rintro rfl
       have:(kL p p.length S0 k).1=[]:=by rw[hfs]
       rw[show p.length=gh+k+1 by omega,kL,if_neg (by rw[HS.out];decide)] at this;cases this
      have hC1:(jU p (k+1))=((jU p k).1++[C],s):=by rw[jU,hS0,if_neg (by rw[HS.out];decide),hfs]
      obtain⟨fn,tmps,assign,body,hy,hRd2⟩:=HY.out (jU p k).1 C post u5 wr (by rw[hpost,hfs]) hJx (by omega) ⟨wb.heap.size,by omega,hwsz,hcv.out,hne⟩;have HC1:=hid hC1;have HBx2:=hid (((World.cell?_of_block (a:=⟨Bp,0,none⟩) (hW.out.block Bp (by omega) (by omega))).trans hBx.out));have HRd2:=hid (hRd.out.same hwsz (hW.out.block b0 (by omega) (by omega)));clear hs hs2 hfs hne hC1 hJx hpost hF hU hcv hBx hRd
      gi_wp2
      refine hRd2.mono ?_;rintro e W3 ⟨rfl,hJ3,hk3⟩;have HJ3:=hid hJ3;have HK3:=hid hk3;clear hJ3 hk3 hRd2
      gi_wp2
      gi_roundg gh
      case rel=>
       refine⟨k+1,by go_num,by omega,?_,?_,?_,?_⟩
       ·rw[HC1.out];exact HJ3
       ·rw[HC1.out];exact hid (HK3.out.2.1.trans hOs.out)
       ·exact hid ((World.cell?_of_block (a:=⟨Bp,0,none⟩) HK3.out.2.2.1).trans HBx2.out)
       ·exact hid (HRd2.out.same HK3.out.1 HK3.out.2.2.2)
      case measure=>omega
     | false=>
      have hs2:s[i]?.getD false=false:=by
       rw[List.getElem?_eq_getElem (by omega)] at hs ⊢;exact hs
      have hs3:s[i]? =some false:=by
       rw[List.getElem?_eq_getElem (by omega)] at hs ⊢;exact congrArg some hs
      rw[hs2] at hci
      cases gk with
      | zero=>have:=ZS s i hs3;have:=hU.out;omega
      | succ g2=>
       have hU2:Hid (JL (s.set i true)≤g2):=hid (by have:=ZS s i hs3;have:=hU.out;omega);have hpi:=HP.out.1 (p[i]?.getD 0) (by rw[List.getElem?_eq_getElem hi];exact List.getElem_mem hi);obtain⟨hA0,hpc⟩:=HR.out.2 i _ (kh p i hi);have hF2:=hF.out;rw[kL,if_neg (by rw[hs];decide)] at hF2;obtain⟨_,hpcb⟩:=hRd.out.2 i _ (kh p i hi)
       have hfrom:∀w2:World,jh W.heap.size wb w2→w2.cell? ⟨Bp,0,none⟩=some (.slice A p.length c)∧w2.cell? ⟨b0,off+i,none⟩=some (.int .i64 (p[i]?.getD 0)):=fun w2 hb=>
        ⟨(World.cell?_of_block (a:=⟨Bp,0,none⟩) (hb.block Bp (by omega) (by omega))).trans hBx.out,(World.cell?_of_block (a:=⟨b0,off+i,none⟩) (hb.block b0 (by omega) (by omega))).trans hpcb⟩
       generalize p[i]?.getD 0=x at *;obtain⟨j,rfl⟩:=Int.eq_ofNat_of_zero_le hpi.1
       have hjp:j<p.length:=by omega
       have HF2:Hid (kL p p.length S0 k=((C++[(i:Int)])++(kL p g2 (s.set i true) j).1,(kL p g2 (s.set i true) j).2)):=hid (by rw[hF2];simp);subst hA0
       have hkc:C.length<256:=by omega
       have HFR:=hid hfrom;have HO2:=hid (show ja (wr.setCell ⟨W.heap.size,i,none⟩ (.bool true)) W.heap.size 4 (xR (s.set i true)) from by rw[←Yi];exact hOs.out.put i _);have HW2:=hid (hW.out.setCell (p:=⟨W.heap.size,i,none⟩) rfl (.bool true));have HC2:=hid (show (wr.setCell ⟨W.heap.size,i,none⟩ (.bool true)).ownsRow wb.heap.size 3 1 u5 C.length (jc C) from xh hcv.out (fun k' _ e=>Below.heap_setCell _ _ _ _ (fun e2=>by have:=(hcv.out.lt k' e).1;dsimp only at e2;omega)))
       have hnew:∀(j':Nat) (u:Value),[Value.int .i64 (i:Int)][j']? =some u→((wr.setCell ⟨W.heap.size,i,none⟩ (.bool true)).alloc (.cells #[.int .i64 (i:Int)] 3)).cell? ((⟨wr.heap.size,0,none⟩:Addr).add j')=some u:=by
        have h:=cell_one_new (wr.setCell ⟨W.heap.size,i,none⟩ (.bool true)) (.int .i64 (i:Int)) 3
        have e:(wr.setCell ⟨W.heap.size,i,none⟩ (.bool true)).heap.size=wr.heap.size:=by simp
        rw[e] at h;exact h
       have HN:=hid hnew;clear hs hs2 hs3 hF hU hF2 hpc hpcb hfrom hpost hcv hOs hW hnew
       gi_wp2_with (gi_at_builtin;(refine wpListIn_append_own _ rfl _ _ 50 rfl wb.heap.size 3 i0 (.int .i64 0) 1 8 Tryz.underlying50 hi0 hz0 hz1 hz2 rfl (by decide) _ _ _ rfl (HC2.out.alloc _) ⟨wr.heap.size,0,none⟩ 1 1 [.int .i64 i] rfl rfl HN.out (fun x hx=>by simp at hx;subst hx;rfl) (by unfold maxLen;omega) (by omega) (by simp;omega) ?_;intro v' w1 hown' hgrow _;have hB1:=((HW2.out.allocQ (.cells #[.int .i64 (i:Int)] 3))).grownQ hgrow (fun k' e=>(HC2.out.lt k' e).1);obtain⟨hx1,hx2⟩:=HFR.out _ hB1;have HO3:=hid ((HO2.out.alloc (.cells #[.int .i64 (i:Int)] 3)).grown hgrow (fun e=>by have:=(HC2.out.lt _ e).1;omega));have HC3:=hid hown';have HB1:=hid hB1;clear hown' hgrow hB1))
       gi_roundg g2
       case rel=>
        exact⟨C++[(i:Int)],s.set i true,j,rfl,hjp,by simp;omega,HF2,hU2,by simpa using hsl,HO3,hid (by simpa [jc] using HC3.out),HB1⟩
       case measure=>omega
end Go.Proofs.YtneafcdfnhnpnaaGreatDoor
namespace Go.Proofs.YtneafcdfnhnpnaaGreatDoor
open Go.RowKit Go.Lib Go.Shelf
attribute [local go_sem] Oper.semAt_some
theorem Yv (A:Option Addr) (n c:Nat) (w:World):Calls Tryz.prog 136 #[.slice A n c] w fun e w'=>e = .returned (.func (.func 191) #[] #[.pointer (some ⟨w.heap.size,0,none⟩)])∧w'=w.alloc (.cells #[.slice A n c] 50):=by
 go_enter Tryz.func136,Tryz.ntmps136
 go_wp2
 go_ret;exact⟨rfl,rfl⟩
def yh (cs:List (List Int)):Int:=cs.foldl (fun s c=>if c.length%2=0 then -s else s) 1
theorem CE (cs:List (List Int)) (c:List Int):yh (cs++[c])=if c.length%2=0 then -(yh cs) else yh cs:=by simp[yh]
theorem CB (cs:List (List Int)):yh cs=1∨yh cs = -1:=by
 have h:∀(cs:List (List Int)) (s:Int),(s=1∨s = -1)→(cs.foldl (fun s c=>if c.length%2=0 then -s else s) s=1∨cs.foldl (fun s c=>if c.length%2=0 then -s else s) s = -1):=by
  intro cs
  induction cs with
  | nil=>intro s hs;exact hs
  | cons c cs ih=>intro s hs;rw[List.foldl_cons];refine ih _ ?_;split <;> omega
 exact h cs 1 (.inl rfl)
theorem x6.ofSl {w:World} {p:List Int} {A:Option Addr} {c Bp:Nat} (h:Sl w 1 (.slice A p.length c) (jc p)) (hB:Bp<w.heap.size):∃b0 off,x6 p A b0 off w∧(b0=Bp∨p≠[]):=by
 by_cases hp:p=[]
 ·exact⟨Bp,0,⟨hB,fun j u hu=>by subst hp;simp[jc] at hu⟩,.inl rfl⟩
 ·obtain⟨b,off,hA,hb,hc⟩:=h.at_ (k:=0) (by rw[jQ];exact List.length_pos_iff.2 hp)
  refine⟨b,off,⟨hb,fun j u hu=>⟨hA,?_⟩⟩,.inr hp⟩;obtain⟨hj,_⟩:=List.getElem?_eq_some_iff.1 hu;exact(hc j hj).trans hu
theorem UM {p:List Int} {pre post:List (List Int)} {x:List Int} (h:qF p=pre++x::post):p≠[]:=by
 rintro rfl;have:qF []=[]:=rfl;rw[this] at h;simp at h
theorem ja.putObjQ {w:World} {g l:Nat} {t:TypeId} {cs:List Value} (h:ja w g t cs) (hl:g≠l) (o:Obj):ja (w.putObj l o) g t cs:=(World.putObj_heap_other hl).trans h
theorem Below.putObjQ {B l:Nat} {a w:World} (h:Below B a w) (hl:B≤l) (o:Obj):Below B a (w.putObj l o):=
 ⟨h.os,h.tape,h.output,by have:=h.size;simpa [World.putObj] using this,fun k hk=>(World.putObj_heap_other (by omega)).trans (h.block k hk)⟩
theorem xP.putObjQ (Bp b0 sb l:Nat) (w:World) (o:Obj) (h1:sb≠l) (h2:Bp≠l) (h3:b0≠l):xP Bp b0 sb w (w.putObj l o):=
 ⟨by simp[World.putObj],World.putObj_heap_other h1,World.putObj_heap_other h2,World.putObj_heap_other h3⟩
theorem Jl.putObjQ {sb l:Nat} {x:List Int} {v:Value} {w:World} (h:Jl sb x v w) (hl:l<sb) (o:Obj):Jl sb x v (w.putObj l o):=by
 obtain⟨base,h1,h2,h3,h4⟩:=h;exact⟨base,h1,by simpa [World.putObj] using h2,xh h3 (fun k _ e=>World.putObj_heap_other (by have:=(h3.lt k e).1;omega)),h4⟩
def CF (p:List Int) (w:World) (e:Ending) (w':World):Prop:=
 e = .returned (.tuple #[.int .i64 (if ji p=0 then yh (qF p) else 0),.int .i64 (ji p)])∧Below w.heap.size w w'
theorem MZ (v:Value) (p:List Int) (w:World) (hv:Sl w 1 v (jc p)):Calls Tryz.prog 50 #[v] w (CF p w):=by
 obtain⟨A,c,rfl,hc1,hc2⟩:=hv.form;simp only[jQ] at hc1 hv ⊢;have CP:=hid (fun W h=>Qv (.slice A p.length c) p W h);by_cases he:ji p=0
 ·have hPp:yu p∧p.length≤256:=by unfold ji at he;split at he;omega;split at he;exact⟨by assumption,by omega⟩;omega
  have HV:=hid hv;have He:=hid he;obtain⟨hP,hl⟩:=hPp;have HP:=hid hP;clear hv he hP;refine(callsIn_wide (n:=4)).1 ?_;refine callsIn_of_wp_marks Tryz.func50 rfl trivial ?_ rfl;simp only[Tryz.ntmps50,List.size_toArray,List.length_cons,List.length_nil,Nat.reduceAdd,Nat.reduceSub,Array.replicate_succ,Array.replicate_zero,List.push_toArray,List.append_toArray,List.nil_append,List.cons_append]
  gi_wp2_with (first | (refine⟨trivial,?_⟩;gi_at_call 45;refine(callsIn_wide.2 (CP.out _ HV.out)).mono ?_;rintro e w1 ⟨rfl,hB1⟩;rw[He.out]) | (refine⟨trivial,?_⟩;gi_at_call 136;refine(callsIn_wide.2 (Yv _ _ _ _)).mono ?_;rintro e w2 ⟨rfl,rfl⟩))
  have hn1:=hB1.size;have hal:Below w1.heap.size w1 ((w1.alloc (.cells #[.int .i64 1] 3)).alloc (.cells #[.slice A p.length c] 50)):=((Below.refl _ w1).alloc (Nat.le_refl _) _).alloc (by simp) _;have hOs:=(ja.make w1 3 [.int .i64 1]).alloc (.cells #[.slice A p.length c] 50);have hOb:=ja.make (w1.alloc (.cells #[.int .i64 1] 3)) 50 [.slice A p.length c];simp only[World.size_alloc] at hOb;have hsl:=(HV.out.below hB1).below hal;have hBw:=hB1.trans (hal.mono hn1)
  have hsz:((w1.alloc (.cells #[.int .i64 1] 3)).alloc (.cells #[.slice A p.length c] 50)).heap.size=w1.heap.size+2:=by simp
  obtain⟨w3,hw3⟩:∃w3,w3=(w1.alloc (.cells #[.int .i64 1] 3)).alloc (.cells #[.slice A p.length c] 50):=⟨_,rfl⟩
  rw[←hw3] at hal hOs hOb hsl hsz hBw ⊢;clear hw3;obtain⟨b0,off,hRd,hb0⟩:=x6.ofSl (Bp:=w1.heap.size+1) hsl (by omega)
  have hb0w:b0=w1.heap.size+1∨(p≠[]∧b0<w1.heap.size):=by
   rcases hb0 with h | h
   ·exact .inl h
   ·refine .inr ⟨h,?_⟩
    obtain⟨b,o,hA,hb,_⟩:=(HV.out.below hB1).at_ (k:=0) (by rw[jQ];exact List.length_pos_iff.2 h);have h1:=(hRd.2 0 _ (kh p 0 (List.length_pos_iff.2 h))).1;rw[hA] at h1;cases h1;exact hb
  refine Zs (gf:=191) (lb:= #[.pointer (some ⟨w1.heap.size+1,0,none⟩)]) (xs:=qF p) (Pr:=Jl) (Kp:=xP (w1.heap.size+1) b0) rfl (enters_of Tryz.func191 (by kernel_rfl) rfl)
   (fun W hW hs=>Yw p A c (w1.heap.size+1) b0 off HP.out hl W ((hW.cell (p:=⟨w1.heap.size+1,0,none⟩) (by simp;omega)).trans (hOb.cell 0)) (by omega) (hRd.same hW.size (hW.block b0 (by rcases hb0w with h | h <;> omega)))) rfl
   (fun pre A=>ja A w1.heap.size 3 [.int .i64 (yh pre)]∧Below w.heap.size w A)
   (fun pre A A' h hb=>⟨h.1.but hb (by omega),h.2.trans (hb.toBelow (by omega) (Nat.le_trans (by have:=h.2.size;omega) (Nat.le_refl _)))⟩)
   (fun pre A l o h hl _=>⟨h.1.putObjQ (by omega) o,Below.putObjQ h.2 (by omega) o⟩)
   (fun A B C h k=>h.trans k) (fun A o hlt=>xP.putObjQ _ _ _ _ A o (by omega) (by omega) (by rcases hb0w with h | h <;> omega))
   (fun x v A o hlt h=>h.putObjQ (by omega) o)
   (fun o1 o2=>⟨(hOs.alloc _).alloc _,(hBw.alloc (by omega) _).alloc (by simp;omega) _⟩)
   (fun v=> { tmps:= #[.slice A p.length c,undef,.int .i64 0,.int .i64 0,.int .i64 0,.pointer (some ⟨w1.heap.size,0,none⟩),v,.slice A p.length c,.int .i64 0,.int .i64 0,.bool false,undef,.slice A p.length c,.func (.func 191) #[] #[.pointer (some ⟨w1.heap.size+1,0,none⟩)],v,undef,undef,undef,undef,undef,undef,undef],defers:=[] })
   ?assign ?body ?done
  case assign=>
   intro l v W K hK
   gi_wp2
   exact hK
  case body=>
   rintro l pre x post v A' hx ⟨hO,hB⟩ hlt ⟨base,hb1,hb2,hrow,hne⟩;obtain⟨A2,c2,rfl,_,_⟩:=j8 hrow;have hpe:=UM hx
   have hb0':b0≠w1.heap.size:=by
    rcases hb0w with h | h
    ·omega
    ·omega
   have hcl:A'.cell? ⟨w1.heap.size,0,none⟩=some (.int .i64 (yh pre)):=hO.cell 0;have hfr:=hO.free 0;have hst:=CE pre x;have hpm:=CB pre;have HO:=hid hO;have HB:=hid hB;clear hO hB hrow;generalize yh pre=s at *
   have hs1: -1≤s∧s≤1:=by omega
   clear hpm
   gi_wp2
   ·rename_i hev
    have hev':x.length%2=0:=by simp at hev;omega
    rw[if_pos hev'] at hst;refine⟨Below.heap_setCell _ _ _ _ (by simp;omega),Below.heap_setCell _ _ _ _ (by simp;omega),⟨by rw[hst];exact HO.out.put 0 _,HB.out.setCell (by simp;omega) _⟩,?_⟩;exact⟨by simp,Below.heap_setCell _ _ _ _ (by simp;omega),Below.heap_setCell _ _ _ _ (by simp),Below.heap_setCell _ _ _ _ hb0'⟩
   ·rename_i hev
    have hev':¬x.length%2=0:=by simp at hev;omega
    rw[if_neg hev'] at hst;exact⟨rfl,rfl,⟨by rw[hst];exact HO.out,HB.out⟩,Nat.le_refl _,rfl,rfl,rfl⟩
  case done=>
   rintro W ⟨hO,hB⟩ hD;have hcl:W.cell? ⟨w1.heap.size,0,none⟩=some (.int .i64 (yh (qF p))):=hO.cell 0;have HB:=hid hB;have HD:=hid hD;clear hB hD hO
   gi_wp2
   refine⟨by simp,.inl ⟨_,_,rfl,run_takeDeferred HD.out,?_⟩⟩;exact⟨_,results_tmp2 rfl _ _ _,by rw[if_pos He.out,He.out];rfl,Below.putObjQ HB.out (by omega) _⟩
 ·have hne:(ji p != 0)=true:=by simpa using he
  have He:=hid he;have HV:=hid hv;clear he hv;go_enter Tryz.func50,Tryz.ntmps50
  go_wp2_with fail
  refine(CP.out _ HV.out).mono ?_;rintro e w1 ⟨rfl,hB1⟩;have HB1:=hid hB1;clear hB1 CP;generalize hec:ji p=ec at *;have HEC:=hid hec;clear hec
  go_wp2
  go_ret2;exact⟨by rw[HEC.out,if_neg He.out];rfl,HB1.out⟩
end Go.Proofs.YtneafcdfnhnpnaaGreatDoor
namespace Go.Proofs.YtneafcdfnhnpnaaGreatDoor
open Go.RowKit Go.Lib Go.Shelf
attribute [local go_sem] Oper.semAt_some
def TI (w:World) (base:Nat) (v:Value) (M:List (List Int)):Prop:=
 ∃vs:List Value,w.ownsRow base 50 1 v M.length vs∧vs.length=M.length ∧ ∀(i:Nat) (x:List Int),M[i]? =some x → ∃u bx,vs[i]? =some u∧base≤bx∧w.ownsRow bx 3 1 u x.length (jc x)
theorem TI.keep {w w':World} {base:Nat} {v:Value} {M:List (List Int)} (h:TI w base v M) (hk:∀k,base≤k→k<w.heap.size→w'.heap[k]? =w.heap[k]?):TI w' base v M:=by
 obtain⟨vs,h1,h2,h3⟩:=h;refine⟨vs,xh h1 (fun k hl e=>hk k (h1.lt k e).1 hl),h2,fun i x hx=> ?_⟩;obtain⟨u,bx,hu,hb,hr⟩:=h3 i x hx;exact⟨u,bx,hu,hb,xh hr (fun k hl e=>hk k (Nat.le_trans hb (hr.lt k e).1) hl)⟩
theorem TI.form {w:World} {base:Nat} {v:Value} {M:List (List Int)} (h:TI w base v M):∃A c,v = .slice A M.length c∧M.length≤c∧c≤maxLen:=by
 obtain⟨vs,h1,_⟩:=h;exact j8 h1
theorem TI.snoc {w w':World} {base:Nat} {v v' u:Value} {M:List (List Int)} {x:List Int} {vs:List Value} (h1:w.ownsRow base 50 1 v M.length vs) (h2:vs.length=M.length)
  (h3:∀(i:Nat) (x:List Int),M[i]? =some x → ∃u bx,vs[i]? =some u∧base≤bx∧w.ownsRow bx 3 1 u x.length (jc x)) {bx:Nat} (hb:base≤bx) (hu:w.ownsRow bx 3 1 u x.length (jc x))
  (hown:w'.ownsRow base 50 1 v' (M.length+1) (vs++[u])) (hg:w.grownBy w' v.ownBlock):TI w' base v' (M++[x]):=by
 have hK:∀(bx:Nat) (u:Value) (x:List Int),w.ownsRow bx 3 1 u x.length (jc x)→w'.ownsRow bx 3 1 u x.length (jc x):=fun bx u x hr=>
  xh hr (fun k hl e=>hg.block k hl (fun e'=>Qb hr h1 (by decide) k e e'.symm))
 refine⟨vs++[u],by rw[List.length_append];exact hown,by simp[h2],fun i y hy=> ?_⟩;rcases Nat.lt_or_ge i M.length with hi | hi
 ·rw[List.getElem?_append_left hi] at hy
  obtain⟨u',b',hu',hb',hr'⟩:=h3 i y hy;exact⟨u',b',by rw[List.getElem?_append_left (by omega)];exact hu',hb',hK _ _ _ hr'⟩
 ·rw[List.getElem?_append_right hi] at hy
  have h0:i-M.length=0:=by
   rcases Nat.eq_zero_or_pos (i-M.length) with h0 | h0
   ·exact h0
   ·rw[List.getElem?_eq_none (by simp;omega)] at hy;cases hy
  rw[h0] at hy;simp at hy;subst hy;exact⟨u,bx,by rw[List.getElem?_append_right (by omega),h2,h0];rfl,hb,hK _ _ _ hu⟩
theorem Sd (p:List Int):(qF p).length≤p.length:=by
 have h:∀k,(jU p k).1.length≤k:=by
  intro k
  induction k with
  | zero=>simp[jU]
  | succ k ih=>rw[jU];split
               ·omega
               ·simp;omega
 exact h _
def GS (M:List (List Int)) (w:World) (e:Ending) (w':World):Prop:=∃v base,e = .returned v∧w.heap.size≤base∧TI w' base v M∧Below w.heap.size w w'
theorem Mw (p:List Int) (A:Option Addr) (c Bp b0 off:Nat) (w:World) (hp:yu p) (hl:p.length≤256) (hbox:ja w Bp 50 [.slice A p.length c]) (hR:x6 p A b0 off w):
  Calls Tryz.prog 192 #[.slice none 0 0,.func (.func 191) #[] #[.pointer (some ⟨Bp,0,none⟩)]] w (GS (qF p) w):=by
 obtain⟨i0,hi0,hz0,hz1,hz2⟩:=info_parts Vu;have HP:=hid hp;have HB:=hid hbox;have HR:=hid hR;clear hp hbox hR;refine(callsIn_wide (n:=4)).1 ?_;refine callsIn_of_wp_marks Tryz.func192 rfl trivial ?_ rfl;simp only[Tryz.ntmps192,List.size_toArray,List.length_cons,List.length_nil,Nat.reduceAdd,Nat.reduceSub,Array.replicate_succ,Array.replicate_zero,List.push_toArray,List.append_toArray,List.nil_append,List.cons_append]
 gi_wp2
 have hBl:=HB.out.lt;have hbl:=HR.out.1;have hal:Below w.heap.size w (w.alloc (.cells #[.slice none 0 0] 57)):=(Below.refl _ w).alloc (Nat.le_refl _) _;have hO0:=ja.make w 57 [.slice none 0 0]
 have hsz:(w.alloc (.cells #[.slice none 0 0] 57)).heap.size=w.heap.size+1:=by simp
 obtain⟨w3,hw3⟩:∃w3,w3=w.alloc (.cells #[.slice none 0 0] 57):=⟨_,rfl⟩
 change ja (w.alloc (.cells #[.slice none 0 0] 57)) _ _ _ at hO0;rw[←hw3] at hal hO0 hsz ⊢;clear hw3
 refine Zs (gf:=191) (lb:= #[.pointer (some ⟨Bp,0,none⟩)]) (xs:=qF p) (Pr:=Jl) (Kp:=xP Bp b0) rfl (enters_of Tryz.func191 (by kernel_rfl) rfl)
  (fun W hW hs=>Yw p A c Bp b0 off HP.out hl W (((hW.cell (p:=⟨Bp,0,none⟩) (by simp;omega)).trans (hal.cell (p:=⟨Bp,0,none⟩) hBl)).trans (HB.out.cell 0)) (by omega) ((HR.out.same hal.size (hal.block b0 hbl)).same hW.size (hW.block b0 (by omega)))) rfl
  (fun pre A'=>(∃v,ja A' w.heap.size 57 [v]∧TI A' (w3.heap.size+3) v pre)∧Below w.heap.size w A')
  (fun pre A' A2 h hb=>⟨by obtain⟨v,h1,h2⟩:=h.1;exact⟨v,h1.but hb (by omega),h2.keep fun k h3 h4=>hb.block k h4 (by omega)⟩,h.2.trans (hb.toBelow (by omega) h.2.size)⟩)
  (fun pre A' l o h hl _=>⟨by obtain⟨v,h1,h2⟩:=h.1;exact⟨v,h1.putObjQ (by omega) o,h2.keep fun k h3 h4=>World.putObj_heap_other (by omega)⟩,Below.putObjQ h.2 (by omega) o⟩)
  (fun A' B C h k=>h.trans k) (fun A' o hlt=>xP.putObjQ _ _ _ _ A' o (by omega) (by omega) (by omega))
  (fun x v A' o hlt h=>h.putObjQ (by omega) o)
  (fun o1 o2=>⟨⟨_,(hO0.alloc _).alloc _,[],World.ownsRow_nil _ _ _ _,rfl,fun i x h=>by simp at h⟩,(hal.alloc (by omega) _).alloc (by simp;omega) _⟩)
  (fun v=> { tmps:= #[.slice none 0 0,.func (.func 191) #[] #[.pointer (some ⟨Bp,0,none⟩)],.pointer (some ⟨w.heap.size,0,none⟩),undef,.slice none 0 0,v,.func (.func 191) #[] #[.pointer (some ⟨Bp,0,none⟩)],v,undef,undef,undef,undef,undef],defers:=[] })
  ?assign ?body ?done
 case assign=>
  intro l v W K hK
  gi_wp2
  exact hK
 case body=>
  rintro l pre x post u A' hx ⟨⟨v,hO,vs,hv1,hv2,hv3⟩,hB⟩ hlt ⟨base,hb1,hb2,hrow,hne⟩;have hcl:A'.cell? ⟨w.heap.size,0,none⟩=some v:=hO.cell 0;have hfr:=hO.free 0
  have hpl:pre.length<256:=by
   have h1:=Sd p;rw[hx] at h1;simp at h1;omega
  obtain⟨A2,c2,hu,_,_⟩:=j8 hrow;obtain⟨A5,c5,hv,_,_⟩:=j8 hv1;have HO:=hid hO;have HBw:=hid hB;have HV1:=hid hv1;have HV3:=hid hv3;have HRow:=hid hrow;have H0:=hid (kC hv1 ((Below.refl A'.heap.size A').alloc (Nat.le_refl _) (.cells #[u] 50)));subst hu hv;clear hO hB hv1 hv3 hrow
  gi_wp2_with (gi_at_builtin;(refine wpListIn_append_own _ rfl _ _ 57 rfl (w3.heap.size+3) 50 i0 (.slice none 0 0) 1 24 Tryz.underlying57 hi0 hz0 hz1 hz2 rfl (by decide) _ _ _ rfl H0.out ⟨A'.heap.size,0,none⟩ 1 1 [.slice A2 x.length c2] rfl rfl (cell_one_new _ _ _) (fun x hx=>by simp at hx;subst hx;rfl) (by unfold maxLen;omega) (by omega) (by simp;omega) ?_;intro v' w1 hown' hgrow _;obtain⟨A7,c7,rfl,_,_⟩:=j8 hown';have hg:(A'.alloc (.cells #[.slice A2 x.length c2] 50)).grownBy w1 (Value.slice A5 pre.length c5).ownBlock:=hgrow;have hO1:=(HO.out.alloc (.cells #[.slice A2 x.length c2] 50)).grown hg (fun e=>by have:=(H0.out.lt _ e).1;omega);have hc1:w1.cell? ⟨w.heap.size,0,none⟩=some (.slice A5 pre.length c5):=hO1.cell 0;have hf1:=hO1.free 0;have HO1:=hid hO1;have HG:=hid hg;have HOW:=hid hown';clear hgrow hown' hO1 hg))
  have halb:Below A'.heap.size A' (A'.alloc (.cells #[.slice A2 x.length c2] 50)):=(Below.refl _ _).alloc (Nat.le_refl _) _
  have hkeep:∀k,k<A'.heap.size→k≠w.heap.size→k<w3.heap.size+3→(w1.setCell ⟨w.heap.size,0,none⟩ (.slice A7 (pre.length+1) c7)).heap[k]? =A'.heap[k]? :=fun k h1 h2 h3=>
   (Below.heap_setCell _ _ _ _ (by simpa using h2)).trans ((HG.out.block k (Nat.lt_of_lt_of_le h1 halb.size) (fun e=>by have:=(H0.out.lt k e.symm).1;omega)).trans (halb.block k h1))
  have hT:TI w1 (w3.heap.size+3) (.slice A7 (pre.length+1) c7) (pre++[x]):=TI.snoc H0.out hv2
   (fun i y hy=>by obtain⟨u,bx,h1,h2,h3⟩:=HV3.out i y hy;exact⟨u,bx,h1,h2,kC h3 halb⟩) (by omega) (kC HRow.out halb) HOW.out HG.out
  have hsz1:A'.heap.size≤w1.heap.size:=Nat.le_trans halb.size HG.out.size;have hBw1:Below w.heap.size w w1:=Below.grown (HBw.out.alloc HBw.out.size _) HG.out (by have:=HBw.out.size;simp;omega) (fun k hk=>by have:=(H0.out.lt k hk).1;omega)
  exact⟨hkeep _ (by omega) (by omega) (by omega),hkeep _ (by omega) (by omega) (by omega),
   ⟨⟨_,HO1.out.put 0 _,hT.keep fun k h3 h4=>Below.heap_setCell _ _ _ _ (by simp;omega)⟩,hBw1.setCell (by simp) _⟩,
   by simpa using hsz1,hkeep _ (by omega) (by omega) (by omega),hkeep _ (by omega) (by omega) (by omega),hkeep _ (by omega) (by omega) (by omega)⟩
 case done=>
  rintro W ⟨⟨v,hO,hT⟩,hB⟩ hD;have hcl:W.cell? ⟨w.heap.size,0,none⟩=some v:=hO.cell 0;obtain⟨A5,c5,rfl,_,_⟩:=hT.form;have HB:=hid hB;have HD:=hid hD;have HT:=hid hT;clear hB hD hO hT
  gi_wp2
  refine⟨by simp,.inl ⟨_,_,rfl,run_takeDeferred HD.out,?_⟩⟩;exact⟨_,results_tmp rfl _ _ _,_,w3.heap.size+3,rfl,by omega,HT.out.keep fun k h3 h4=>World.putObj_heap_other (by omega),Below.putObjQ HB.out (by omega) _⟩
end Go.Proofs.YtneafcdfnhnpnaaGreatDoor
namespace Go.Proofs.YtneafcdfnhnpnaaGreatDoor
open Go.RowKit Go.Lib
theorem My (p:List Int) (A:Option Addr) (c Bp b0 off:Nat) (w:World) (hp:yu p) (hl:p.length≤256) (hbox:ja w Bp 50 [.slice A p.length c]) (hR:x6 p A b0 off w):
  Calls Tryz.prog 137 #[.func (.func 191) #[] #[.pointer (some ⟨Bp,0,none⟩)]] w (GS (qF p) w):=by
 have AS:=hid (Mw p A c Bp b0 off w hp hl hbox hR);clear hp hbox hR;go_enter Tryz.func137,Tryz.ntmps137
 go_wp2_with fail
 refine AS.out.mono ?_;rintro e w1 ⟨v,base,rfl,hb,hT,hB⟩;obtain⟨A5,c5,rfl,_,_⟩:=hT.form;have HT:=hid hT;have HB:=hid hB;clear hT hB AS
 go_wp2
 go_ret;exact⟨_,base,rfl,hb,HT.out,HB.out⟩
def Sc (p:List Int) (w:World) (e:Ending) (w':World):Prop:=
 Below w.heap.size w w'∧((ji p=0 ∧ ∃v base,e = .returned (.tuple #[v,.int .i64 0])∧w.heap.size≤base∧TI w' base v (qF p))∨(ji p≠0∧e = .returned (.tuple #[jr,.int .i64 (ji p)])))
theorem Mz (v:Value) (p:List Int) (w:World) (hv:Sl w 1 v (jc p)):Calls Tryz.prog 49 #[v] w (Sc p w):=by
 obtain⟨A,c,rfl,hc1,hc2⟩:=hv.form;simp only[jQ] at hc1 hv ⊢;have CP:=hid (fun W h=>Qv (.slice A p.length c) p W h);by_cases he:ji p=0
 ·have hPp:yu p∧p.length≤256:=by unfold ji at he;split at he;omega;split at he;exact⟨by assumption,by omega⟩;omega
  have HV:=hid hv;have He:=hid he;have HPp:=hid hPp;clear hv he hPp;go_enter Tryz.func49,Tryz.ntmps49
  go_wp2_with fail
  refine(CP.out _ HV.out).mono ?_;rintro e w1 ⟨rfl,hB1⟩;rw[He.out];have hsl:=HV.out.below hB1;have HB1:=hid hB1;have hal:Below w1.heap.size w1 (w1.alloc (.cells #[.slice A p.length c] 50)):=(Below.refl _ w1).alloc (Nat.le_refl _) _;have hOb:=ja.make w1 50 [.slice A p.length c];obtain⟨b0,off,hRd,_⟩:=x6.ofSl (Bp:=w1.heap.size) (hsl.below hal) (by simp);have CL:=hid (My p A c w1.heap.size b0 off (w1.alloc (.cells #[.slice A p.length c] 50)) HPp.out.1 HPp.out.2 hOb hRd);have HB2:=hid (hB1.trans (hal.mono hB1.size));clear hsl hal hOb hRd hB1 HV CP
  go_wp2_with fail
  refine(Yv _ _ _ _).mono ?_;rintro e w2 ⟨rfl,rfl⟩
  go_wp2_with fail
  refine CL.out.mono ?_;rintro e w3 ⟨u,base,rfl,hb,hT,hB⟩;obtain⟨A5,c5,rfl,_,_⟩:=hT.form;have HT:=hid hT;have HB3:=hid (HB2.out.trans (hB.mono HB2.out.size));have hbw:w.heap.size≤base:=Nat.le_trans HB2.out.size hb;clear hT hB CL
  go_wp2
  go_ret2;exact⟨HB3.out,.inl ⟨He.out,_,base,rfl,hbw,HT.out⟩⟩
 ·have hne:(ji p != 0)=true:=by simpa using he
  have He:=hid he;have HV:=hid hv;clear he hv;go_enter Tryz.func49,Tryz.ntmps49
  go_wp2_with fail
  refine(CP.out _ HV.out).mono ?_;rintro e w1 ⟨rfl,hB1⟩;have HB1:=hid hB1;clear hB1 CP;generalize hec:ji p=ec at *;have HEC:=hid hec;clear hec
  go_wp2
  go_ret2;exact⟨HB1.out,.inr ⟨by rw[HEC.out];exact He.out,by rw[HEC.out];rfl⟩⟩
def Xl (ops:Array Oper):Bool:=ops.all fun o=>match o.op with | .defer _=>false | _=>true
theorem Df {ops:Array Oper} (h:Xl ops=true) {i:Nat} {o:Oper} (ho:ops[i]? =some o):∀c,o.op ≠ .defer c:=by
 intro c hc;have hm:o∈ops:=Array.mem_of_getElem? ho;have:=Array.all_eq_true'.1 h o hm;rw[hc] at this;cases this
section
variable {F:Fence} {n l:Nat} {P:Program} {ops:Array Oper} {Q:Exit→Act→World→Prop} {md:Region.Mode}
theorem FH {i:Nat} {K K':Act→World→Prop} {a:Act} {w:World} (hd:Xl ops=true) (hK:∀a w,K a w→K' a w)
  (hh:wpOpIn F n P ops Q i K a w):wpOpIn (F.inRound l) n P ops Q i K' a w:=by
 have hh:=wpOpIn_mono hK hh;unfold wpOpIn at *;split
 ·rename_i hn;simpa [hn] using hh
 ·rename_i o ho
  simp only[ho] at hh;split
  ·rename_i hw
   simp only[hw,if_true] at hh;unfold Oper.wpIn at *;rw[Oper.semAt_eq _ _ _ (Df hd ho)] at hh ⊢;exact hh
  ·rename_i hw;simpa [hw] using hh
theorem H9 (hd:Xl ops=true):∀(fuel:Nat) (listed:Array Bool) (a:Act) (w:World),wpAnyIn F n P md ops Q fuel listed a w→wpAnyIn (F.inRound l) n P md ops Q fuel listed a w
 | 0,_,_,_,h=>h
 | fuel+1,_,_,_,h=>⟨h.1,fun i hi=>FH hd (fun a w hh=>H9 hd fuel _ a w hh) (h.2 i hi)⟩
theorem FE {id:Nat} {a:Act} {w:World} (hm:P.follows .mixedOrders=true) (hd:Xl ops=true)
  (h:wpAnyIn F n P .any ops Q ops.size (Array.replicate ops.size false) a w.drew):(Code.region id ops true).wpIn (F.inRound l) n P Q a w:=
 wpIn_region_any hm (H9 hd _ _ _ _ h)
end
end Go.Proofs.YtneafcdfnhnpnaaGreatDoor
namespace Go.Proofs.YtneafcdfnhnpnaaGreatDoor
open Go.RowKit Go.Lib Go.Shelf
attribute [local go_sem] Oper.semAt_some
theorem FJ (n:Int) (h: -9223372036854775808≤n∧n≤9223372036854775807):IntKind.i64.wrap n=n:=by rw[IntKind.wrap_i64];omega
theorem Vn (p:List Int):∀(f:Nat) (s:List Bool) (i:Nat) (x:Int),x∈(kL p f s i).1→0≤x∧x<s.length
 | 0,s,i,x,h=>by simp[kL] at h
 | f+1,s,i,x,h=>by
  rw[kL] at h;split at h
  ·simp at h
  ·rename_i hs
   simp only[List.mem_cons] at h;rcases h with rfl | h
   ·have:i<s.length:=by
     rcases Nat.lt_or_ge i s.length with h | h
     ·exact h
     ·rw[List.getElem?_eq_none h] at hs;exact absurd rfl hs
    omega
   ·have:=Vn p f _ _ x h
    simpa using this
theorem Yt (p:List Int):∀(k:Nat) (c:List Int),c∈(jU p k).1 → ∀x∈c,0≤x∧x<p.length
 | 0,c,h=>by simp[jU] at h
 | k+1,c,h=>by
  rw[jU] at h;split at h
  ·exact Yt p k c h
  ·simp only[List.mem_append,List.mem_singleton] at h
   rcases h with h | rfl
   ·exact Yt p k c h
   ·intro x hx
    have:=Vn p _ _ _ x hx
    rwa [QS] at this
theorem Vl (p:List Int):∀(f:Nat) (s:List Bool) (i:Nat),(kL p f s i).1.length≤f
 | 0,s,i=>by simp[kL]
 | f+1,s,i=>by
  rw[kL];split
  ·simp
  ·have:=Vl p f (s.set i true) (p[i]?.getD 0).toNat
   simpa using this
theorem Yu (p:List Int):∀(k:Nat) (c:List Int),c∈(jU p k).1→c.length≤p.length
 | 0,c,h=>by simp[jU] at h
 | k+1,c,h=>by
  rw[jU] at h;split at h
  ·exact Yu p k c h
  ·simp only[List.mem_append,List.mem_singleton] at h
   rcases h with h | rfl
   ·exact Yu p k c h
   ·exact Vl p _ _ _
def yI (c:List Int) (t:Nat) (r:List Int):Nat→List Int
 | 0=>r
 | i+1=>(yI c t r i).set (c[i]?.getD 0).toNat (c[(i+t)%c.length]?.getD 0)
def Qc (k:Int) (r:List Int) (c:List Int):List Int:=yI c (k%(c.length:Int)).toNat r c.length
def yJ (p:List Int) (k:Int) (cs:List (List Int)):List Int:=cs.foldl (Qc k) (List.replicate p.length 0)
def Wu (p:List Int) (k:Int):List Int:=yJ p k (qF p)
theorem Zm (c:List Int) (t:Nat) (r:List Int):∀i,(yI c t r i).length=r.length
 | 0=>rfl
 | i+1=>by rw[yI,List.length_set,Zm c t r i]
theorem Wv (p:List Int) (k:Int) (cs:List (List Int)):(yJ p k cs).length=p.length:=by
 have h:∀(cs:List (List Int)) (r:List Int),(cs.foldl (Qc k) r).length=r.length:=by
  intro cs
  induction cs with
  | nil=>intro r;rfl
  | cons c cs ih=>intro r;rw[List.foldl_cons,ih,Qc,Zm]
 rw[yJ,h,List.length_replicate]
theorem Aj (p:List Int) (k:Int) (cs:List (List Int)) (c:List Int):yJ p k (cs++[c])=Qc k (yJ p k cs) c:=by simp[yJ]
theorem MW (v:Value) (p:List Int) (k:Int) (w:World) (hv:Sl w 1 v (jc p)):Calls Tryz.prog 48 #[v,.int .i64 k] w (Nw (ji p) (Wu p k) w):=by
 obtain⟨A,c,rfl,hc1,hc2⟩:=hv.form;simp only[jQ] at hc1 hv ⊢;have CP:=hid (fun W h=>Qv (.slice A p.length c) p W h);by_cases he:ji p=0
 ·have hPp:yu p∧p.length≤256:=by unfold ji at he;split at he;omega;split at he;exact⟨by assumption,by omega⟩;omega
  have HV:=hid hv;have He:=hid he;obtain⟨hP,hl⟩:=hPp;have HP:=hid hP
  have hmk:=fun W=>Jx W p.length (by omega)
  clear hv he hP;refine(callsIn_wide (n:=4)).1 ?_;refine callsIn_of_wp_marks Tryz.func48 rfl trivial ?_ rfl;simp only[Tryz.ntmps48,List.size_toArray,List.length_cons,List.length_nil,Nat.reduceAdd,Nat.reduceSub,Array.replicate_succ,Array.replicate_zero,List.push_toArray,List.append_toArray,List.nil_append,List.cons_append]
  gi_wp2_with (first | (refine⟨trivial,?_⟩;gi_at_call 45;refine(callsIn_wide.2 (CP.out _ (HV.out.alloc _))).mono ?_;rintro e w1 ⟨rfl,hB1⟩;rw[He.out]) | (refine⟨trivial,?_⟩;gi_at_call 136;refine(callsIn_wide.2 (Yv _ _ _ _)).mono ?_;rintro e w2 ⟨rfl,rfl⟩))
  have hn1:=hB1.size;simp only[World.size_alloc] at hn1;have hK1:ja w1 w.heap.size 3 [.int .i64 k]:=(ja.make w 3 [.int .i64 k]).below hB1 (by simp);have hBw1:Below w.heap.size w w1:=((Below.refl _ w).alloc (Nat.le_refl _) _).trans (hB1.mono (by simp));have hHV:=(HV.out.alloc (.cells #[.int .i64 k] 3)).below hB1;clear hB1;have hal:Below w1.heap.size w1 (((w1.alloc (.cells (jc (List.replicate p.length 0)).toArray 3)).alloc (.cells #[.slice (some ⟨w1.heap.size,0,none⟩) p.length p.length] 50)).alloc (.cells #[.slice A p.length c] 50)):=(((Below.refl _ w1).alloc (Nat.le_refl _) _).alloc (by simp) _).alloc (by simp;omega) _;have hOs:=((ja.make w1 3 (jc (List.replicate p.length 0))).alloc (.cells #[.slice (some ⟨w1.heap.size,0,none⟩) p.length p.length] 50)).alloc (.cells #[.slice A p.length c] 50);have hOq:=(ja.make (w1.alloc (.cells (jc (List.replicate p.length 0)).toArray 3)) 50 [.slice (some ⟨w1.heap.size,0,none⟩) p.length p.length]).alloc (.cells #[.slice A p.length c] 50);have hOb:=ja.make ((w1.alloc (.cells (jc (List.replicate p.length 0)).toArray 3)).alloc (.cells #[.slice (some ⟨w1.heap.size,0,none⟩) p.length p.length] 50)) 50 [.slice A p.length c];simp only[World.size_alloc] at hOq hOb;have hsl:=hHV.below hal;have hBw:=hBw1.trans (hal.mono (by omega));have hKa:=hK1.below hal (by omega)
  have hsz:(((w1.alloc (.cells (jc (List.replicate p.length 0)).toArray 3)).alloc (.cells #[.slice (some ⟨w1.heap.size,0,none⟩) p.length p.length] 50)).alloc (.cells #[.slice A p.length c] 50)).heap.size=w1.heap.size+3:=by simp
  obtain⟨w3,hw3⟩:∃w3,w3=(((w1.alloc (.cells (jc (List.replicate p.length 0)).toArray 3)).alloc (.cells #[.slice (some ⟨w1.heap.size,0,none⟩) p.length p.length] 50)).alloc (.cells #[.slice A p.length c] 50)):=⟨_,rfl⟩
  rw[←hw3] at hal hOs hOq hOb hsl hsz hBw hKa ⊢;clear hw3 hmk;obtain⟨b0,off,hRd,hb0⟩:=x6.ofSl (Bp:=w1.heap.size+1+1) hsl (by omega)
  have hb0w:b0=w1.heap.size+1+1∨(p≠[]∧b0<w1.heap.size):=by
   rcases hb0 with h | h
   ·exact .inl h
   ·refine .inr ⟨h,?_⟩
    obtain⟨b,o,hA,hb,_⟩:=hHV.at_ (k:=0) (by rw[jQ];exact List.length_pos_iff.2 h);have h1:=(hRd.2 0 _ (kh p 0 (List.length_pos_iff.2 h))).1;rw[hA] at h1;cases h1;exact hb
  refine Zs (gf:=191) (lb:= #[.pointer (some ⟨w1.heap.size+1+1,0,none⟩)]) (xs:=qF p) (Pr:=Jl) (Kp:=xP (w1.heap.size+1+1) b0) rfl (enters_of Tryz.func191 (by kernel_rfl) rfl)
   (fun W hW hs=>Yw p A c (w1.heap.size+1+1) b0 off HP.out hl W ((hW.cell (p:=⟨w1.heap.size+1+1,0,none⟩) (by simp;omega)).trans (hOb.cell 0)) (by omega) (hRd.same hW.size (hW.block b0 (by rcases hb0w with h | h <;> omega)))) rfl
   (fun pre A=>ja A w1.heap.size 3 (jc (yJ p k pre))∧ja A (w1.heap.size+1) 50 [.slice (some ⟨w1.heap.size,0,none⟩) p.length p.length]∧ja A w.heap.size 3 [.int .i64 k]∧Below w.heap.size w A)
   (fun pre A A' h hb=>⟨h.1.but hb (by omega),h.2.1.but hb (by omega),h.2.2.1.but hb (by omega),h.2.2.2.trans (hb.toBelow (by omega) h.2.2.2.size)⟩)
   (fun pre A l o h hl _=>⟨h.1.putObjQ (by omega) o,h.2.1.putObjQ (by omega) o,h.2.2.1.putObjQ (by omega) o,Below.putObjQ h.2.2.2 (by omega) o⟩)
   (fun A B C h k=>h.trans k) (fun A o hlt=>xP.putObjQ _ _ _ _ A o (by omega) (by omega) (by rcases hb0w with h | h <;> omega))
   (fun x v A o hlt h=>h.putObjQ (by omega) o)
   (fun o1 o2=>⟨(hOs.alloc _).alloc _,(hOq.alloc _).alloc _,(hKa.alloc _).alloc _,(hBw.alloc (by omega) _).alloc (by simp;omega) _⟩)
   (fun v=> { tmps:= #[.slice A p.length c,.int .i64 k,undef,.pointer (some ⟨w.heap.size,0,none⟩),.slice none 0 0,.int .i64 0,.int .i64 0,.pointer (some ⟨w1.heap.size+1,0,none⟩),v,undef,undef,undef,undef,.slice A p.length c,.int .i64 0,.int .i64 0,.bool false,undef,.slice A p.length c,.int .i64 p.length,.slice (some ⟨w1.heap.size,0,none⟩) p.length p.length,.slice A p.length c,.func (.func 191) #[] #[.pointer (some ⟨w1.heap.size+1+1,0,none⟩)],v,undef,undef,undef,undef,undef,undef,undef,undef,undef,undef,undef,undef,undef,undef,undef,undef,undef,undef,undef,undef,undef,undef,undef,undef,undef,undef,undef,undef,undef],defers:=[] })
   ?assign ?body ?done
  case assign=>
   intro l v W K hK
   gi_wp2
   exact hK
  case body=>
   rintro l pre x post v A' hx ⟨hO,hQ,hK,hB⟩ hlt ⟨base,hb1,hb2,hrow,hne⟩;obtain⟨A2,c2,rfl,hc3,hc4⟩:=j8 hrow;have hpe:=UM hx;have hxm:∀y∈x,0≤y∧y<p.length:=Yt p p.length x (by rw[show (jU p p.length).1=qF p from rfl,hx];simp);have hxl:x.length≤256:=Nat.le_trans (Yu p p.length x (by rw[show (jU p p.length).1=qF p from rfl,hx];simp)) hl
   have hb0':b0≠w1.heap.size:=by
    rcases hb0w with h | h
    ·omega
    ·omega
   have hn0:0<x.length:=List.length_pos_iff.2 hne;unfold maxLen at hc4
   have hnz:((x.length:Int)==0)=false:=by simp;omega
   have hnz2:(x.length:Int)≠0:=by omega
   have hkc:A'.cell? ⟨w.heap.size,0,none⟩=some (.int .i64 k):=hK.cell 0;have hre:=W9 k x.length (by omega) (by omega);have hem:=Int.emod_nonneg k hnz2;have hel:=Int.emod_lt_of_pos k (show (0:Int)<x.length by omega);obtain⟨t,ht⟩:=Int.eq_ofNat_of_zero_le hem
   have htn:t<x.length:=by omega
   have hst:yJ p k (pre++[x])=yI x t (yJ p k pre) x.length:=by rw[Aj];unfold Qc;rw[ht];rfl
   have hrl:(yJ p k pre).length=p.length:=Wv p k pre;rw[ht] at hre;have HST:=hid hst;have HO:=hid hO;have HQ:=hid hQ;have HK:=hid hK;have HB:=hid hB;have HXM:=hid hxm;have HRW:=hid hrow;have HRE:=hid hre;have HRL:=hid hrl;clear hO hQ hK hB hrow hxm hst hem hel ht hre hrl hx hne;generalize hr0:yJ p k pre=r0 at *;clear hr0
   gi_wp2
   rw[HRE.out];clear hnz hkc hnz2 HRE
   gi_loopg [35] x.length (fun gh ix wx=>∃j:Nat,ix = .int .i64 j∧j+gh=x.length∧Hid (ja wx w1.heap.size 3 (jc (yI x t r0 j)))∧Hid (jh w1.heap.size A' wx))
   case atStart=>exact⟨0,rfl,by omega,HO,hid (jh.refl _ _)⟩
   case round=>
    obtain⟨j,rfl,hj,hOx,hBx⟩:=hrel
    cases gk with
    | zero=>
     have hin:¬((j:Int)<(x.length:Int)):=by omega
     have hjn:j=x.length:=by omega
     subst hjn
     gi_wp2
     have hbx:=hBx.out;have hO2:=hOx.out;rw[←HST.out] at hO2
     exact⟨hbx.block _ (by omega) (by omega),hbx.block _ (by omega) (by omega),⟨hO2,HQ.out.but hbx (by omega),HK.out.but hbx (by omega),HB.out.trans (hbx.toBelow (by omega) HB.out.size)⟩,
      hbx.size,hbx.block _ (by omega) (by omega),hbx.block _ (by omega) (by omega),hbx.block _ (by rcases hb0w with h | h <;> omega) hb0'⟩
    | succ gh=>
     have hlt:(j:Int)<(x.length:Int):=by omega
     have hjl:j<x.length:=by omega
     have hjt:(j+t)%x.length<x.length:=Nat.mod_lt _ hn0;obtain⟨g,rfl,hgb,hgl,hgc⟩:=Ja HRW.out hjl;have hc1:=(World.cell?_of_block (a:=⟨g,j,none⟩) (hBx.out.block g hgl (by omega))).trans ((hgc j hjl).trans (kh x j hjl));have hc2':=(World.cell?_of_block (a:=⟨g,(j+t)%x.length,none⟩) (hBx.out.block g hgl (by omega))).trans ((hgc _ hjt).trans (kh x _ hjt));have hq:wr.cell? ⟨w1.heap.size+1,0,none⟩=some (.slice (some ⟨w1.heap.size,0,none⟩) p.length p.length):=(HQ.out.but hBx.out (by omega)).cell 0;have hxj:=HXM.out (x[j]?.getD 0) (by rw[List.getElem?_eq_getElem hjl];exact List.getElem_mem hjl)
     have hnz2:(x.length:Int)≠0:=by omega
     have hne:¬x=[]:=List.length_pos_iff.1 hn0
     have hne2:¬x.length=0:=by omega
     have hwj:Hid (IntKind.i64.wrap ((j:Int)+(t:Int))=(j:Int)+(t:Int)):=hid (FJ _ (by omega));have hpr:yI x t r0 (j+1)=(yI x t r0 j).set (x[j]?.getD 0).toNat (x[(j+t)%x.length]?.getD 0):=rfl
     have htm:((j:Int)+(t:Int)).tmod (x.length:Int)=(((j+t)%x.length:Nat):Int):=by
      rw[Int.tmod_eq_emod_of_nonneg (by omega)];simp
     generalize (j+t)%x.length=jt at *;have hjt1:(jt:Int)<(x.length:Int):=Int.ofNat_lt.2 hjt;have hnz:((x.length:Int)==0)=false:=beq_eq_false_iff_ne.2 hnz2;have hOl:=hOx.out.lt;generalize x[j]?.getD 0=y at *;generalize x[jt]?.getD 0=z at *;obtain⟨m,rfl⟩:=Int.eq_ofNat_of_zero_le hxj.1
     have hm:m<p.length:=by omega
     rw[Int.toNat_natCast] at hpr;have hfr:=hOx.out.free m;have hcm:=hOx.out.cell m;rw[kh _ m (by rw[Zm,HRL.out];exact hm)] at hcm;generalize (yI x t r0 j)[m]?.getD 0=zz at *;have HPR:=hid hpr;have HTM:=hid htm;clear hpr hxj hgc htm
     gi_wp2
     have htm:=HTM.out;have HWJ:=hwj.out;clear hwj;refine FE (F:=Fence.wide) (by kernel_rfl) (by kernel_rfl) ?_;refine wpAnyIn_take (i:=1) (v:= .int .i64 m) rfl rfl (by kernel_rfl) (by kernel_rfl) (by kernel_rfl) (fun _ _ _ h=>h) ⟨Or.inl ⟨by rfl,?_⟩,fun _=>rfl⟩ ?_
     ·intro w;go_simp;try exact HWJ
     refine wpAnyIn_take (i:=2) (v:= .slice (some ⟨g,0,none⟩) x.length c2) rfl rfl (by kernel_rfl) (by kernel_rfl) (by kernel_rfl) (fun _ _ _ h=>h) ⟨Or.inl ⟨by rfl,?_⟩,fun _=>rfl⟩ ?_
     ·intro w;go_simp;try exact HWJ
     refine wpAnyIn_take (i:=3) (v:= .int .i64 j) rfl rfl (by kernel_rfl) (by kernel_rfl) (by kernel_rfl) (fun _ _ _ h=>h) ⟨Or.inl ⟨by rfl,?_⟩,fun _=>rfl⟩ ?_
     ·intro w;go_simp;try exact HWJ
     refine wpAnyIn_take (i:=4) (v:= .int .i64 t) rfl rfl (by kernel_rfl) (by kernel_rfl) (by kernel_rfl) (fun _ _ _ h=>h) ⟨Or.inl ⟨by rfl,?_⟩,fun _=>rfl⟩ ?_
     ·intro w;go_simp;try exact HWJ
     refine wpAnyIn_take (i:=6) (v:= .int .i64 x.length) rfl rfl (by kernel_rfl) (by kernel_rfl) (by kernel_rfl) (fun _ _ _ h=>h) ⟨Or.inl ⟨by rfl,?_⟩,fun _=>rfl⟩ ?_
     ·intro w;go_simp;try exact HWJ
     refine wpAnyIn_take (i:=5) (v:= .int .i64 ((j:Int)+(t:Int))) rfl rfl (by kernel_rfl) (by kernel_rfl) (by kernel_rfl) (fun _ _ _ h=>h) ⟨Or.inl ⟨by rfl,?_⟩,fun _=>rfl⟩ ?_
     ·intro w;go_simp;try exact HWJ
     refine wpAnyIn_take (i:=7) (v:= .int .i64 jt) rfl rfl (by kernel_rfl) (by kernel_rfl) (by kernel_rfl) (fun _ _ _ h=>h) ⟨Or.inl ⟨by rfl,?_⟩,fun _=>rfl⟩ ?_
     ·intro w;go_simp;try exact HWJ
     refine wpAnyIn_take (i:=8) (v:= .pointer (some ⟨g,jt,none⟩)) rfl rfl (by kernel_rfl) (by kernel_rfl) (by kernel_rfl) (fun _ _ _ h=>h) ⟨Or.inl ⟨by rfl,?_⟩,fun _=>rfl⟩ ?_
     ·intro w;go_simp;try exact HWJ
     refine wpAnyIn_ready (rs:=[0,9]) (by kernel_rfl) (by simp) ?_;refine AllReadyIn.cons rfl (fun K hK=> ?_) (AllReadyIn.cons rfl (fun K hK=> ?_) AllReadyIn.nil)
     ·go_simp;refine hK _ _ ?_;clear hK K
      refine wpAnyIn_ready (rs:=[9]) (by kernel_rfl) (by simp) ?_;refine AllReadyIn.cons rfl (fun K hK=> ?_) AllReadyIn.nil
      go_simp;refine hK _ _ ?_;clear hK K
      refine wpAnyIn_ready (rs:=[10]) (by kernel_rfl) (by simp) ?_;refine AllReadyIn.cons rfl (fun K hK=> ?_) AllReadyIn.nil
      go_simp;refine hK _ _ ?_;clear hK K
      refine wpAnyIn_ready (rs:=[11]) (by kernel_rfl) (by simp) ?_;refine AllReadyIn.cons rfl (fun K hK=> ?_) AllReadyIn.nil
      go_simp;refine hK _ _ ?_;clear hK K
      refine wpAnyIn_done (by kernel_rfl) ?_ _
      gi_wp2
      have hOd:ja wr.drew w1.heap.size 3 (jc (yI x t r0 j)):=hOx.out;have hOe:=hOd.put m (.int .i64 z);rw[xF,←HPR.out] at hOe;have hBd:=hBx.out.drew.setCell ⟨w1.heap.size,m,none⟩ rfl (.int .i64 z)
      gi_roundg gh
      case rel=>exact⟨j+1,by go_num,by omega,hid hOe,hid hBd⟩
      case measure=>omega
     ·go_simp;refine hK _ _ ?_;clear hK K
      refine wpAnyIn_ready (rs:=[0]) (by kernel_rfl) (by simp) ?_;refine AllReadyIn.cons rfl (fun K hK=> ?_) AllReadyIn.nil
      go_simp;refine hK _ _ ?_;clear hK K
      refine wpAnyIn_ready (rs:=[10]) (by kernel_rfl) (by simp) ?_;refine AllReadyIn.cons rfl (fun K hK=> ?_) AllReadyIn.nil
      go_simp;refine hK _ _ ?_;clear hK K
      refine wpAnyIn_ready (rs:=[11]) (by kernel_rfl) (by simp) ?_;refine AllReadyIn.cons rfl (fun K hK=> ?_) AllReadyIn.nil
      go_simp;refine hK _ _ ?_;clear hK K
      refine wpAnyIn_done (by kernel_rfl) ?_ _
      gi_wp2
      have hOd:ja wr.drew w1.heap.size 3 (jc (yI x t r0 j)):=hOx.out;have hOe:=hOd.put m (.int .i64 z);rw[xF,←HPR.out] at hOe;have hBd:=hBx.out.drew.setCell ⟨w1.heap.size,m,none⟩ rfl (.int .i64 z)
      gi_roundg gh
      case rel=>exact⟨j+1,by go_num,by omega,hid hOe,hid hBd⟩
      case measure=>omega
  case done=>
   rintro W ⟨hO,hQ,hK,hB⟩ hD;have hcl:W.cell? ⟨w1.heap.size+1,0,none⟩=some (.slice (some ⟨w1.heap.size,0,none⟩) p.length p.length):=hQ.cell 0;have HB:=hid hB;have HD:=hid hD;have HO:=hid hO;clear hB hD hO hQ hK
   gi_wp2
   refine⟨by simp,.inl ⟨_,_,rfl,run_takeDeferred HD.out,?_⟩⟩;refine⟨_,results_tmp2 rfl _ _ _,?_,Below.putObjQ HB.out (by omega) _⟩;rw[if_pos He.out];exact⟨_,rfl,(HO.out.putObjQ (by omega) _).sl _ (by rw[jQ,Wv]) (by omega)⟩
 ·have hne:(ji p != 0)=true:=by simpa using he
  have He:=hid he;have HV:=hid hv;clear he hv;go_enter Tryz.func48,Tryz.ntmps48
  go_wp2_with fail
  refine(CP.out _ (HV.out.alloc _)).mono ?_;rintro e w1 ⟨rfl,hB1⟩;have HB1:=hid hB1;clear hB1 CP;generalize hec:ji p=ec at *;have HEC:=hid hec;clear hec
  go_wp2
  go_ret2;exact⟨by rw[if_neg He.out];rfl,((Below.refl _ _).alloc (Nat.le_refl _) _).trans (HB1.out.mono (by simp))⟩
