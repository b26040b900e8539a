/- The calls of the self-check, one by one. -/
import Derived.Test.YtneafcdfnhnpnaaGreatDoorZU31
import Derived.Test.YtneafcdfnhnpnaaGreatDoorZU32
import Derived.Test.YtneafcdfnhnpnaaGreatDoorZU26
import Derived.Test.YtneafcdfnhnpnaaGreatDoorZU06
import Derived.Test.YtneafcdfnhnpnaaGreatDoorZU24
import Derived.Test.YtneafcdfnhnpnaaGreatDoorZU11
set_option maxRecDepth 100000
set_option maxHeartbeats 8000000
namespace Go.Proofs.YtneafcdfnhnpnaaGreatDoor
open Go.RowKit Go.Lib
theorem Own.slW {w:World} {g:Nat} {t:TypeId} {cs:List Value} (h:Own w g t cs) (n:Nat) (hn:cs.length=n) (hs:n≤140737488355328):SlW w (.slice (some ⟨g,0,none⟩) n n) cs:=(h.sl n hn hs).wide
theorem TblT.two {w:World} {v v0 v1:Value} {r0 r1:List Txt} (h:SlW w v [v0,v1]) (h0:SlW w v0 (scells r0)) (h1:SlW w v1 (scells r1)):TblT w v [r0,r1]:=
 ⟨_,h,rfl,fun i r hr=>by
  rcases i with _ | _ | i
  ·cases hr;exact⟨_,rfl,h0⟩
  ·cases hr;exact⟨_,rfl,h1⟩
  ·cases hr⟩
theorem TblT.one {w:World} {v v0:Value} {r0:List Txt} (h:SlW w v [v0]) (h0:SlW w v0 (scells r0)):TblT w v [r0]:=
 ⟨_,h,rfl,fun i r hr=>by
  rcases i with _ | i
  ·cases hr;exact⟨_,rfl,h0⟩
  ·cases hr⟩
theorem TblW.one {w:World} {v v0:Value} {r0:List Int} (h:SlW w v [v0]) (h0:SlW w v0 (icells r0)):TblW w v [r0]:=
 ⟨_,h,rfl,fun i r hr=>by
  rcases i with _ | i
  ·cases hr;exact⟨_,rfl,h0⟩
  ·cases hr⟩
theorem TblS.two {w:World} {v v0 v1:Value} {r0 r1:List Int} (h:Sl w 1 v [v0,v1]) (h0:Sl w 1 v0 (icells r0)) (h1:Sl w 1 v1 (icells r1)):TblS w v [r0,r1]:=
 ⟨_,h,rfl,fun i r hr=>by
  rcases i with _ | _ | i
  ·cases hr;exact⟨_,rfl,h0⟩
  ·cases hr;exact⟨_,rfl,h1⟩
  ·cases hr⟩
theorem TI.wide {w:World} {base:Nat} {v:Value} {M:List (List Int)} (h:TI w base v M) (hl:M.length≤1000000) (hr:∀r∈M,r.length≤1000000):TblW w v M:=by
 obtain⟨vs,h1,h2,h3⟩:=h
 have h1':w.ownsRow base 50 1 v vs.length vs:=by rw[h2];exact h1
 have h4:=oSl h1' (by omega)
 refine⟨vs,h4,h2,fun i r hi=> ?_⟩
 obtain⟨u,bx,hu,_,ho⟩:=h3 i r hi
 have:=hr r (List.mem_of_getElem? hi)
 exact⟨u,hu,oSl ho (by omega)⟩
theorem aw_Of (w:World) (hG:Glob w):Calls Tryz.prog 34 #[.int .i64 6,.int .i64 (-4)] w fun e w'=>e = .returned (.tuple #[.string ⟨#[45,51,47,50]⟩,.int .i64 0])∧Below w.heap.size w w':=
 (Of_c 6 (-4) w (by omega) (by omega) hG).mono fun e w' h=>by
  obtain⟨h1,h2⟩:=h
  rw[if_neg (by decide)] at h1
  have e1:¬tooLong (((6:Int):Rat)/(((-4):Int):Rat)):=by decide +kernel
  have e2:rtext (((6:Int):Rat)/(((-4):Int):Rat))=[45,51,47,50]:=by decide +kernel
  rw[writeEnd_ok e1,e2] at h1
  exact⟨h1,h2⟩
theorem aw_Gcd (w:World):Calls Tryz.prog 36 #[.int .i64 12,.int .i64 (-18)] w fun e w'=>e = .returned (.tuple #[.int .i64 6,.int .i64 0])∧Below w.heap.size w w':=
 (Gcd_c 12 (-18) w).mono fun e w' h=>by
  obtain⟨h1,h2⟩:=h
  rw[if_neg (by unfold far;omega)] at h1
  exact⟨h1,h2⟩
theorem aw_Inverse (w:World):Calls Tryz.prog 39 #[.int .i64 3,.int .i64 10] w fun e w'=>e = .returned (.tuple #[.int .i64 7,.int .i64 0])∧Below w.heap.size w w':=
 (Inverse_c 3 10 w).mono fun e w' h=>by
  obtain⟨h1,h2⟩:=h
  rw[if_neg (by unfold far;omega),if_pos (by decide)] at h1
  obtain⟨x,h3,h4,h5,h6⟩:=h1
  have:x=7:=by omega
  subst this
  exact⟨h3,h2⟩
def pA:List Int:=[1,2,0,4,3]
theorem aw_Cycles (v:Value) (w:World) (hv:Sl w 1 v (icells pA)):Calls Tryz.prog 49 #[v] w fun e w'=>(∃u,e = .returned (.tuple #[u,.int .i64 0])∧TblW w' u [[0,1,2],[3,4]])∧Below w.heap.size w w':=
 (Cycles_c v pA w hv).mono fun e w' h=>by
  have hp:permErr pA=0:=by decide +kernel
  have hc:cycs pA=[[0,1,2],[3,4]]:=by decide +kernel
  obtain⟨h1,h2 | h2⟩:=h
  ·obtain⟨_,u,base,rfl,hb,ht⟩:=h2
   rw[hc] at ht
   exact⟨⟨u,rfl,ht.wide (by decide) (by decide)⟩,h1⟩
  ·exact absurd hp h2.1
theorem aw_Sign (v:Value) (w:World) (hv:Sl w 1 v (icells pA)):Calls Tryz.prog 50 #[v] w fun e w'=>e = .returned (.tuple #[.int .i64 (-1),.int .i64 0])∧Below w.heap.size w w':=
 (Sign_c v pA w hv).mono fun e w' h=>by
  have hp:permErr pA=0:=by decide +kernel
  have hc:signL (cycs pA) = -1:=by decide +kernel
  obtain⟨h1,h2⟩:=h
  rw[if_pos hp,hp,hc] at h1
  exact⟨h1,h2⟩
theorem aw_Power (v:Value) (w:World) (hv:Sl w 1 v (icells pA)):Calls Tryz.prog 48 #[v,.int .i64 2] w fun e w'=>(∃u,e = .returned (.tuple #[u,.int .i64 0])∧SlW w' u (icells [2,0,1,3,4]))∧Below w.heap.size w w':=
 (Power_c v pA 2 w hv).mono fun e w' h=>by
  have hp:permErr pA=0:=by decide +kernel
  have hc:powL pA 2=[2,0,1,3,4]:=by decide +kernel
  obtain⟨h1,h2⟩:=h
  rw[if_pos hp,hc] at h1
  obtain⟨u,h3,h4⟩:=h1
  exact⟨⟨u,h3,h4.wide⟩,h2⟩
theorem aw_Rank (v:Value) (w:World) (hv:Sl w 1 v (icells [2,0,1])) (hG:Glob w):Calls Tryz.prog 58 #[v] w fun e w'=>e = .returned (.tuple #[.string ⟨#[52]⟩,.int .i64 0])∧Below w.heap.size w w':=
 (Rank_c v [2,0,1] w hv hG (.inl (by decide))).mono fun e w' h=>by
  have hp:permErr [2,0,1]=0:=by decide +kernel
  obtain⟨h1,h2⟩:=h
  rw[if_pos hp] at h1
  have e1:¬tooLong (mkR false (rankFrom [2,0,1] [(2:Int),0,1].length) 1):=by decide +kernel
  have e2:rtext (mkR false (rankFrom [2,0,1] [(2:Int),0,1].length) 1)=[52]:=by decide +kernel
  rw[writeEnd_ok e1,e2] at h1
  exact⟨h1,h2⟩
theorem aw_Unrank (w:World) (hG:Glob w):Calls Tryz.prog 59 #[.int .i64 4,.string ⟨#[50,51]⟩] w fun e w'=>(∃u,e = .returned (.tuple #[u,.int .i64 0])∧SlW w' u (icells [3,2,1,0]))∧Below w.heap.size w w':=
 (Unrank_c 4 [50,51] w (by decide) hG (.inl (by decide)) (.small (by decide +kernel))).mono fun e w' h=>by
  have hp:unrCode 4 [50,51]=0:=by decide +kernel
  have hc:(pickTo (factDig (readRes [50,51]).2.num.natAbs (4:Int).toNat (4:Int).toNat) (4:Int).toNat).1=[3,2,1,0]:=by decide +kernel
  obtain⟨h1,h2 | h2⟩:=h
  ·obtain⟨_,g,rfl,hg,ho⟩:=h2
   rw[hc] at ho
   exact⟨⟨_,rfl,ho.slW 4 rfl (by decide)⟩,h1⟩
  ·exact absurd hp h2.1
theorem txtOk_of (M:List (List Txt)) (h:M.all (fun r=>r.all fun l=>decide (l.length≤19))=true):∀r∈M,∀l∈r,TxtOk l:=fun r hr l hl=>by
 have:=of_decide_eq_true (List.all_eq_true.1 (List.all_eq_true.1 h r hr) l hl)
 exact⟨by omega,.inl this⟩
theorem txtOk_row (L:List Txt) (h:L.all (fun l=>decide (l.length≤19))=true):∀l∈L,TxtOk l:=fun l hl=>by
 have:=of_decide_eq_true (List.all_eq_true.1 h l hl)
 exact⟨by omega,.inl this⟩
theorem aw_Kernel (v:Value) (w:World) (hv:TblT w v aM1) (hG:Glob w):Calls Tryz.prog 69 #[v] w fun e w'=>(∃u,e = .returned (.tuple #[u,.int .i64 0])∧TblT w' u [[[49],[45,49,47,50],[48]]])∧Below w.heap.size w w':=
 (Kernel_c v aM1 w hv (txtOk_of _ (by decide)) hG (fun _=>by rw[aV1];exact kerB_ok aK1)).mono fun e w' h=>by
  obtain⟨h1,h2 | h2⟩:=h
  ·obtain⟨_,h3⟩:=h2
   rw[aV1,show widM aM1=3 from rfl,aK2] at h3
   rcases h3 with h3 | h3
   ·obtain⟨_,g,B,rfl,hg,hT⟩:=h3
    have hv:=hT.vals
    have e2:([[(1:Rat),-1/2,0]].take [[(1:Rat),-1/2,0]].length).map (·.map rtext)=[[[49],[45,49,47,50],[48]]]:=by decide +kernel
    rw[e2] at hv
    rcases B with _ | ⟨⟨b0,r0⟩,_ | ⟨r1,B⟩⟩
    ·simp at hv
    ·have hr0:r0=[[49],[45,49,47,50],[48]]:=by simpa using hv
     subst hr0
     have ho:=hT.own
     have hr:=(hT.rows (b0,_) (List.mem_singleton.2 rfl)).2.1
     exact⟨⟨_,rfl,TblT.one (Own.slW (cs:=[_]) ho 1 rfl (by decide)) (hr.slW 3 rfl (by decide))⟩,h1⟩
    ·simp at hv
   ·exact absurd aK3 h3.1
  ·exact absurd aR1 h2.1
theorem aw_Solve (v u:Value) (w:World) (hv:TblT w v aM1) (hu:SlW w u (scells aB1)) (hG:Glob w):Calls Tryz.prog 76 #[v,u] w fun e w'=>(∃u,e = .returned (.tuple #[u,.int .i64 0])∧SlW w' u (scells [[49],[48],[49]]))∧Below w.heap.size w w':=
 (Solve_c v u aM1 aB1 w hv hu (txtOk_of _ (by decide)) (txtOk_row _ (by decide)) hG (fun _=>by rw[aV1,aV2];exact solB_ok aS1)).mono fun e w' h=>by
  obtain⟨h1,h2 | h2⟩:=h
  ·obtain⟨_,_,_,h3⟩:=h2
   rw[aV1,aV2,show widM aM1=3 from rfl,aS2] at h3
   rcases h3 with h3 | h3
   ·exact absurd h3.1 aS3
   ·rcases h3.2 with ⟨_,g,rfl,hg,ho⟩ | ⟨⟨q,hq,hl⟩,_⟩
    ·have e2:[(1:Rat),0,1].map rtext=[[49],[48],[49]]:=by decide +kernel
     rw[e2] at ho
     exact⟨⟨_,rfl,ho.slW 3 rfl (by decide)⟩,h1⟩
    ·exfalso
     simp only[List.mem_cons,List.not_mem_nil,or_false] at hq
     have a1:¬tooLong 1:=by decide +kernel
     have a0:¬tooLong 0:=by decide +kernel
     rcases hq with rfl | rfl | rfl
     ·exact a1 hl
     ·exact a0 hl
     ·exact a1 hl
  ·exact absurd aR2 h2.1
theorem aw_Det (v:Value) (w:World) (hv:TblT w v aM2) (hG:Glob w):Calls Tryz.prog 83 #[v] w fun e w'=>e = .returned (.tuple #[.string ⟨#[45,50]⟩,.int .i64 0])∧Below w.heap.size w w':=
 (Determinant_c v aM2 w hv (txtOk_of _ (by decide)) hG (fun _ _=>by rw[aV3];exact detB_ok aD1)).mono fun e w' h=>by
  obtain⟨h1,h2 | h2 | h2⟩:=h
  ·have h3:=h2.2.2
   have e1:¬tooLong (-2):=by decide +kernel
   have e2:rtext (-2)=[45,50]:=by decide +kernel
   rw[aV3,show widM aM2=2 from rfl,aD2,writeEnd_ok e1,e2] at h3
   exact⟨h3,h1⟩
  ·exact absurd rfl h2.2.1
  ·exact absurd aR3 h2.1
theorem aw_Refute (v u t:Value) (w:World) (hv:TblT w v aM3) (hu:SlW w u (scells aB3)) (ht:SlW w t (scells aY3)) (hG:Glob w):Calls Tryz.prog 78 #[v,u,t] w fun e w'=>e = .returned (.int .i64 0)∧Below w.heap.size w w':=
 (CheckRefute_c v u t aM3 aB3 aY3 w hv hu ht (txtOk_of _ (by decide)) (txtOk_row _ (by decide)) (txtOk_row _ (by decide)) hG (fun _ _=>by rw[aV4,aV5,aV6];exact refB_ok aF1)).mono fun e w' h=>by
  obtain⟨h1,h2 | h2 | h2⟩:=h
  ·obtain⟨_,_,h3 | h3⟩:=h2
   ·exact⟨h3.2,h1⟩
   ·refine absurd ?_ h3.1
    rw[aV4,aV5,aV6];exact aF2
  ·exact absurd aR5 h2.2.1
  ·exact absurd aR4 h2.1
noncomputable def kerLM (p:Int) (n:Nat) (V:List (List Int)):List (List Int):=nsBasis (resF p) 0 1 n (elimM (resF p) n (V.map List.reverse)) n
theorem kerLM_of {p:Int} {n:Nat} {R:List RowI} {V:List (List Int)} (h:R.map (·.2.2)=V):
  nsBasis (resF p) 0 1 n (elGo (resF p) n R.length 0 ⟨mapTo List.reverse R R.length,[],[],false⟩) n=kerLM p n V:=by
 have hv2:valsT (mapTo List.reverse R R.length)=V.map List.reverse:=by rw[mapTo_all_vals];rw[show valsT R=V from h]
 have:=elim_same (F:=resF p) hv2 n
 rw[mapTo_length] at this
 exact this.nsBasis 0 1 n n
theorem aw_KerM (v:Value) (w:World) (hv:TblS w v [[1,2],[3,4]]):Calls Tryz.prog 87 #[v,.int .i64 2] w fun e w'=>(∃u,e = .returned (.tuple #[u,.int .i64 0])∧TblW w' u [[0,1]])∧Below w.heap.size w w':=
 (KernelModulo_c v [[1,2],[3,4]] 2 w hv).mono fun e w' h=>by
  have a1:matE [[1,2],[3,4]]=0:=by decide +kernel
  have a2:IsPr 2:=⟨by omega,fun d h1 h2=>by omega⟩
  have a3:kerLM 2 2 [[1,0],[1,0]]=[[0,1]]:=by decide +kernel
  have a4:modM 2 [[1,2],[3,4]]=[[1,0],[1,0]]:=by decide +kernel
  obtain⟨h1,h2 | h2 | h2⟩:=h
  ·obtain⟨_,_,_,R,u,B,rfl,hR,hT,hBl,hB⟩:=h2
   rw[a4] at hR
   rw[show ((([[1,2],[3,4]]:List (List Int))[0]?.map (·.length)).getD 0)=2 from rfl,kerLM_of hR,a3] at hB
   have:=hT.tblW (by omega)
   rw[hB] at this
   exact⟨⟨_,rfl,this⟩,h1⟩
  ·exact absurd ⟨a2,by omega⟩ h2.2.1
  ·exact absurd a1 h2.1
theorem bA {w W:World} (h:Below w.heap.size w W) (o:Obj):Below w.heap.size w (W.alloc o):=h.alloc h.size o
theorem bT {w W W':World} (h:Below w.heap.size w W) (k:Below W.heap.size W W'):Below w.heap.size w W':=h.trans (k.mono h.size)
theorem aw_si (L:List Int) (v u:Value) (w:World) (hv:SlW w v (icells L)) (hu:SlW w u (icells L)):Calls Tryz.prog 93 #[v,u] w fun e w'=>e = .returned (.bool true)∧Below w.heap.size w w':=
 (refSameInts_c v u L L w hv hu).mono fun e w' h=>⟨by rw[h.1];simp,h.2⟩
theorem aw_st (L:List (List Int)) (v u:Value) (w:World) (hv:TblW w v L) (hu:TblW w u L):Calls Tryz.prog 54 #[v,u] w fun e w'=>e = .returned (.bool true)∧Below w.heap.size w w':=
 (refSameTable_c v u L L w hv hu).mono fun e w' h=>⟨by rw[h.1];simp,h.2⟩
theorem aw_sr (L:List Txt) (v u:Value) (w:World) (hv:SlW w v (scells L)) (hu:SlW w u (scells L)):Calls Tryz.prog 101 #[v,u] w fun e w'=>e = .returned (.bool true)∧Below w.heap.size w w':=
 (refSameRow_c v u L L w hv hu).mono fun e w' h=>⟨by rw[h.1];simp,h.2⟩
theorem aw_sm (L:List (List Txt)) (v u:Value) (w:World) (hv:TblT w v L) (hu:TblT w u L):Calls Tryz.prog 99 #[v,u] w fun e w'=>e = .returned (.bool true)∧Below w.heap.size w w':=
 (refSameMatrix_c v u L L w hv hu).mono fun e w' h=>⟨by rw[h.1];simp,h.2⟩
theorem aw_n1 (w:World):Calls Tryz.prog 32 #[.string ⟨#[108,111,95,115,104,117]⟩] w fun e w'=>e = .returned (.bool true)∧Below w.heap.size w w':=
 (IsName_c ⟨#[108,111,95,115,104,117]⟩ w (by decide)).mono fun e w' h=>by
  obtain⟨b,rfl,hb,hB⟩:=h
  refine⟨?_,hB⟩
  rw[hb.2 ⟨by decide,fun i hi c hc=> ?_⟩]
  rcases i with _ | _ | _ | _ | _ | _ | i
  ·cases hc;decide
  ·cases hc;decide
  ·cases hc;decide
  ·cases hc;decide
  ·cases hc;decide
  ·cases hc;decide
  ·cases hc
theorem aw_n2 (w:World):Calls Tryz.prog 32 #[.string ⟨#[51,120,51]⟩] w fun e w'=>e = .returned (.bool false)∧Below w.heap.size w w':=
 (IsName_c ⟨#[51,120,51]⟩ w (by decide)).mono fun e w' h=>by
  obtain⟨b,rfl,hb,hB⟩:=h
  refine⟨?_,hB⟩
  cases b
  ·rfl
  ·have:=(hb.1 rfl).2 0 (by decide) 51 rfl
   exact absurd this (by decide)
theorem litT2 (w:World) (t1 t2:TypeId) (a b:List Txt) (n:Nat) (ha:a.length=n) (hb:b.length=n) (hn:n≤100):
  TblT (((w.alloc (.cells (scells a).toArray t1)).alloc (.cells (scells b).toArray t1)).alloc (.cells #[.slice (some ⟨w.heap.size,0,none⟩) n n,.slice (some ⟨w.heap.size+1,0,none⟩) n n] t2)) (.slice (some ⟨w.heap.size+1+1,0,none⟩) 2 2) [a,b]:=by
 have h0:=((Own.make w t1 (scells a)).alloc (.cells (scells b).toArray t1)).alloc (.cells #[.slice (some ⟨w.heap.size,0,none⟩) n n,.slice (some ⟨w.heap.size+1,0,none⟩) n n] t2)
 have h1:=(Own.make (w.alloc (.cells (scells a).toArray t1)) t1 (scells b)).alloc (.cells #[.slice (some ⟨w.heap.size,0,none⟩) n n,.slice (some ⟨w.heap.size+1,0,none⟩) n n] t2)
 have h2:=Own.make ((w.alloc (.cells (scells a).toArray t1)).alloc (.cells (scells b).toArray t1)) t2 [.slice (some ⟨w.heap.size,0,none⟩) n n,.slice (some ⟨w.heap.size+1,0,none⟩) n n]
 simp only[World.size_alloc] at h1 h2
 exact TblT.two (h2.slW 2 rfl (by decide)) (h0.slW n (by rw[scells_length,ha]) (by omega)) (h1.slW n (by rw[scells_length,hb]) (by omega))
theorem litT1 (w:World) (t1 t2:TypeId) (a:List Txt) (n:Nat) (ha:a.length=n) (hn:n≤100):
  TblT ((w.alloc (.cells (scells a).toArray t1)).alloc (.cells #[.slice (some ⟨w.heap.size,0,none⟩) n n] t2)) (.slice (some ⟨w.heap.size+1,0,none⟩) 1 1) [a]:=by
 have h0:=(Own.make w t1 (scells a)).alloc (.cells #[.slice (some ⟨w.heap.size,0,none⟩) n n] t2)
 have h2:=Own.make (w.alloc (.cells (scells a).toArray t1)) t2 [.slice (some ⟨w.heap.size,0,none⟩) n n]
 simp only[World.size_alloc] at h2
 exact TblT.one (h2.slW 1 rfl (by decide)) (h0.slW n (by rw[scells_length,ha]) (by omega))
theorem litS2 (w:World) (t1 t2:TypeId) (a b:List Int) (n m:Nat) (ha:a.length=n) (hb:b.length=m) (hn:n≤100) (hm:m≤100):
  TblS (((w.alloc (.cells (icells a).toArray t1)).alloc (.cells (icells b).toArray t1)).alloc (.cells #[.slice (some ⟨w.heap.size,0,none⟩) n n,.slice (some ⟨w.heap.size+1,0,none⟩) m m] t2)) (.slice (some ⟨w.heap.size+1+1,0,none⟩) 2 2) [a,b]:=by
 have h0:=((Own.make w t1 (icells a)).alloc (.cells (icells b).toArray t1)).alloc (.cells #[.slice (some ⟨w.heap.size,0,none⟩) n n,.slice (some ⟨w.heap.size+1,0,none⟩) m m] t2)
 have h1:=(Own.make (w.alloc (.cells (icells a).toArray t1)) t1 (icells b)).alloc (.cells #[.slice (some ⟨w.heap.size,0,none⟩) n n,.slice (some ⟨w.heap.size+1,0,none⟩) m m] t2)
 have h2:=Own.make ((w.alloc (.cells (icells a).toArray t1)).alloc (.cells (icells b).toArray t1)) t2 [.slice (some ⟨w.heap.size,0,none⟩) n n,.slice (some ⟨w.heap.size+1,0,none⟩) m m]
 simp only[World.size_alloc] at h1 h2
 exact TblS.two (h2.sl 2 rfl (by decide)) (h0.sl n (by rw[icells_length,ha]) (by omega)) (h1.sl m (by rw[icells_length,hb]) (by omega))
theorem TblS.wide {w:World} {v:Value} {M:List (List Int)} (h:TblS w v M):TblW w v M:=by
 obtain⟨vs,h1,h2,h3⟩:=h
 exact⟨vs,h1.wide,h2,fun i r hr=>by obtain⟨u,hu,hs⟩:=h3 i r hr;exact⟨u,hu,hs.wide⟩⟩
theorem litW1 (w:World) (t1 t2:TypeId) (a:List Int) (n:Nat) (ha:a.length=n) (hn:n≤100):
  TblW ((w.alloc (.cells (icells a).toArray t1)).alloc (.cells #[.slice (some ⟨w.heap.size,0,none⟩) n n] t2)) (.slice (some ⟨w.heap.size+1,0,none⟩) 1 1) [a]:=by
 have h0:=(Own.make w t1 (icells a)).alloc (.cells #[.slice (some ⟨w.heap.size,0,none⟩) n n] t2)
 have h2:=Own.make (w.alloc (.cells (icells a).toArray t1)) t2 [.slice (some ⟨w.heap.size,0,none⟩) n n]
 simp only[World.size_alloc] at h2
 exact TblW.one (h2.slW 1 rfl (by decide)) (h0.slW n (by rw[icells_length,ha]) (by omega))
theorem litI (w:World) (t1:TypeId) (a:List Int) (n:Nat) (ha:a.length=n) (hn:n≤100):
  Sl (w.alloc (.cells (icells a).toArray t1)) 1 (.slice (some ⟨w.heap.size,0,none⟩) n n) (icells a):=(Own.make w t1 (icells a)).sl n (by rw[icells_length,ha]) (by omega)
theorem litX (w:World) (t1:TypeId) (a:List Txt) (n:Nat) (ha:a.length=n) (hn:n≤100):
  SlW (w.alloc (.cells (scells a).toArray t1)) (.slice (some ⟨w.heap.size,0,none⟩) n n) (scells a):=(Own.make w t1 (scells a)).slW n (by rw[scells_length,ha]) (by omega)
theorem TblT.more {w:World} {v:Value} {M:List (List Txt)} (h:TblT w v M) (o:Obj):TblT (w.alloc o) v M:=h.below ((Below.refl _ _).alloc (Nat.le_refl _) _)
theorem SlW.more {w:World} {v:Value} {xs:List Value} (h:SlW w v xs) (o:Obj):SlW (w.alloc o) v xs:=h.below ((Below.refl _ _).alloc (Nat.le_refl _) _)
theorem litXat (w:World) (g:Nat) (hg:w.heap.size=g) (t1:TypeId) (a:List Txt) (n:Nat) (ha:a.length=n) (hn:n≤100):
  SlW (w.alloc (.cells (scells a).toArray t1)) (.slice (some ⟨g,0,none⟩) n n) (scells a):=by subst hg;exact litX w t1 a n ha hn
theorem size3 (w:World) (a b c:Obj):(((w.alloc a).alloc b).alloc c).heap.size=w.heap.size+1+1+1:=by simp
theorem size4 (w:World) (a b c d:Obj):((((w.alloc a).alloc b).alloc c).alloc d).heap.size=w.heap.size+1+1+1+1:=by simp
theorem TblW.more {w:World} {v:Value} {M:List (List Int)} (h:TblW w v M) (o:Obj):TblW (w.alloc o) v M:=h.below ((Below.refl _ _).alloc (Nat.le_refl _) _)
theorem awake_c (w:World) (hG:Glob w):Calls Tryz.prog 15 #[] w fun e w'=>e = .returned (.bool true)∧Below w.heap.size w w':=by
 have HG:=hid hG
 clear hG
 go_enter Tryz.func15,Tryz.ntmps15
 go_wp2_with fail
 refine(aw_Of _ HG.out).mono ?_
 rintro e w1 ⟨rfl,hB⟩
 have HB1:=hid hB
 clear hB
 go_wp2_with fail
 refine(aw_Gcd _).mono ?_
 rintro e w2 ⟨rfl,hB⟩
 have HB2:=hid (bT HB1.out hB)
 clear hB HB1
 go_wp2_with fail
 refine(aw_Inverse _).mono ?_
 rintro e w3 ⟨rfl,hB⟩
 have HB3:=hid (bT HB2.out hB)
 clear hB HB2
 go_wp2_with fail
 have HP:=hid (litI w3 3 pA 5 rfl (by decide))
 refine(aw_Cycles _ _ HP.out).mono ?_
 rintro e w4 ⟨⟨vc,rfl,hvc⟩,hB⟩
 have HC:=hid hvc
 have HP4:=hid (HP.out.below hB)
 have HB4:=hid (bT (bA HB3.out _) hB)
 clear hB HB3 HP hvc
 go_wp2_with fail
 refine(aw_Sign _ _ HP4.out).mono ?_
 rintro e w5 ⟨rfl,hB⟩
 have HP5:=hid (HP4.out.below hB)
 have HB5:=hid (bT HB4.out hB)
 have S5:=hid hB
 clear hB HB4 HP4
 go_wp2_with fail
 refine(aw_Power _ _ HP5.out).mono ?_
 rintro e w6 ⟨⟨vq,rfl,hvq⟩,hB⟩
 have HQ:=hid hvq
 have HB6:=hid (bT HB5.out hB)
 have S6:=hid (bT S5.out hB)
 clear hB HB5 HP5 S5 hvq
 go_wp2_with fail
 refine(aw_Rank _ _ (litI w6 3 [2,0,1] 3 rfl (by decide)) (HG.out.below (bA HB6.out _))).mono ?_
 rintro e w7 ⟨rfl,hB⟩
 have HB7:=hid (bT (bA HB6.out _) hB)
 have R7:=hid (bT (bA (Below.refl _ w6) _) hB)
 clear hB HB6
 go_wp2_with fail
 refine(aw_Unrank _ (HG.out.below HB7.out)).mono ?_
 rintro e w8 ⟨⟨vu,rfl,hvu⟩,hB⟩
 have HU:=hid hvu
 have HB8:=hid (bT HB7.out hB)
 have R8:=hid (bT R7.out hB)
 clear hB HB7 R7 hvu
 go_wp2_with fail
 refine(aw_Kernel _ _ (litT2 w8 _ _ [[49],[50],[51]] [[50],[52],[55]] 3 rfl rfl (by decide)) (HG.out.below (bA (bA (bA HB8.out _) _) _))).mono ?_
 rintro e w9 ⟨⟨vk,rfl,hvk⟩,hB⟩
 have HK:=hid hvk
 have HB9:=hid (bT (bA (bA (bA HB8.out _) _) _) hB)
 have R9:=hid (bT (bA (bA (bA (Below.refl _ w8) _) _) _) hB)
 clear hB HB8 hvk
 go_wp2_with fail
 refine(aw_Solve _ _ _ ((litT2 w9 _ _ [[49],[50],[51]] [[50],[52],[55]] 3 rfl rfl (by decide)).more _) (litXat _ _ (size3 _ _ _ _) _ [[52],[57]] 2 rfl (by decide)) (HG.out.below (bA (bA (bA (bA HB9.out _) _) _) _))).mono ?_
 rintro e w10 ⟨⟨vx,rfl,hvx⟩,hB⟩
 have HX:=hid hvx
 have HB10:=hid (bT (bA (bA (bA (bA HB9.out _) _) _) _) hB)
 have R10:=hid (bT (bA (bA (bA (bA (Below.refl _ w9) _) _) _) _) hB)
 clear hB HB9 hvx
 go_wp2_with fail
 refine(aw_Det _ _ (litT2 w10 _ _ [[49],[50]] [[51],[52]] 2 rfl rfl (by decide)) (HG.out.below (bA (bA (bA HB10.out _) _) _))).mono ?_
 rintro e w11 ⟨rfl,hB⟩
 have HB11:=hid (bT (bA (bA (bA HB10.out _) _) _) hB)
 have R11:=hid (bT (bA (bA (bA (Below.refl _ w10) _) _) _) hB)
 clear hB HB10
 go_wp2_with fail
 refine(aw_KerM _ _ (litS2 w11 _ _ [1,2] [3,4] 2 2 rfl rfl (by decide) (by decide))).mono ?_
 rintro e w12 ⟨⟨vm,rfl,hvm⟩,hB⟩
 have HM:=hid hvm
 have HB12:=hid (bT (bA (bA (bA HB11.out _) _) _) hB)
 have R12:=hid (bT (bA (bA (bA (Below.refl _ w11) _) _) _) hB)
 clear hB HB11 hvm
 go_wp2_with fail
 have K12:=hid (bT (bT (bT R9.out R10.out) R11.out) R12.out)
 refine(aw_st [[0,1,2],[3,4]] _ _ _ ((((HC.out.below (bT (bT S6.out R8.out) K12.out)).more _).more _).more _) (litS2 w12 _ _ [0,1,2] [3,4] 3 2 rfl rfl (by decide) (by decide)).wide).mono ?_
 rintro e w13 ⟨rfl,hB⟩
 have HB13:=hid (bT (bA (bA (bA HB12.out _) _) _) hB)
 have R13:=hid (bT (bA (bA (bA (Below.refl _ w12) _) _) _) hB)
 clear hB HB12 HC
 go_wp2_with fail
 refine(aw_si [2,0,1,3,4] _ _ _ ((HQ.out.below (bT (bT R8.out K12.out) R13.out)).more _) (litI w13 _ [2,0,1,3,4] 5 rfl (by decide)).wide).mono ?_
 rintro e w14 ⟨rfl,hB⟩
 have HB14:=hid (bT (bA HB13.out _) hB)
 have R14:=hid (bT R13.out (bT (bA (Below.refl _ w13) _) hB))
 clear hB HB13 HQ R13
 go_wp2_with fail
 refine(aw_si [3,2,1,0] _ _ _ ((HU.out.below (bT K12.out R14.out)).more _) (litI w14 _ [3,2,1,0] 4 rfl (by decide)).wide).mono ?_
 rintro e w15 ⟨rfl,hB⟩
 have HB15:=hid (bT (bA HB14.out _) hB)
 have R15:=hid (bT R14.out (bT (bA (Below.refl _ w14) _) hB))
 clear hB HB14 HU R14
 go_wp2_with fail
 refine(aw_st [[0,1]] _ _ _ (((HM.out.below R15.out).more _).more _) (litW1 w15 _ _ [0,1] 2 rfl (by decide))).mono ?_
 rintro e w16 ⟨rfl,hB⟩
 have HB16:=hid (bT (bA (bA HB15.out _) _) hB)
 have R16:=hid (bT R15.out (bT (bA (bA (Below.refl _ w15) _) _) hB))
 clear hB HB15 HM R15
 go_wp2_with fail
 refine(aw_Refute _ _ _ _ (((litT2 w16 _ _ [[49],[49]] [[50],[50]] 2 rfl rfl (by decide)).more _).more _) ((litXat _ _ (size3 _ _ _ _) _ [[49],[51]] 2 rfl (by decide)).more _) (litXat _ _ (size4 _ _ _ _ _) _ [[45,50],[49]] 2 rfl (by decide)) (HG.out.below (bA (bA (bA (bA (bA HB16.out _) _) _) _) _))).mono ?_
 rintro e w17 ⟨rfl,hB⟩
 have HB17:=hid (bT (bA (bA (bA (bA (bA HB16.out _) _) _) _) _) hB)
 have R17:=hid (bT R16.out (bT (bA (bA (bA (bA (bA (Below.refl _ w16) _) _) _) _) _) hB))
 clear hB HB16 R16
 go_wp2_with fail
 refine(aw_sm [[[49],[45,49,47,50],[48]]] _ _ _ (((HK.out.below (bT (bT (bT R10.out R11.out) R12.out) R17.out)).more _).more _) (litT1 w17 _ _ [[49],[45,49,47,50],[48]] 3 rfl (by decide))).mono ?_
 rintro e w18 ⟨rfl,hB⟩
 have HB18:=hid (bT (bA (bA HB17.out _) _) hB)
 have R18:=hid (bT R17.out (bT (bA (bA (Below.refl _ w17) _) _) hB))
 clear hB HB17 HK R17
 go_wp2_with fail
 refine(aw_sr [[49],[48],[49]] _ _ _ ((HX.out.below (bT (bT R11.out R12.out) R18.out)).more _) (litX w18 _ [[49],[48],[49]] 3 rfl (by decide))).mono ?_
 rintro e w19 ⟨rfl,hB⟩
 have HB19:=hid (bT (bA HB18.out _) hB)
 clear hB HB18 HX R18
 go_wp2_with fail
 refine(aw_n1 _).mono ?_
 rintro e w20 ⟨rfl,hB⟩
 have HB20:=hid (bT HB19.out hB)
 clear hB HB19
 go_wp2_with fail
 refine(aw_n2 _).mono ?_
 rintro e w21 ⟨rfl,hB⟩
 have HB21:=hid (bT HB20.out hB)
 clear hB HB20
 go_wp2
 go_ret
 exact⟨rfl,HB21.out⟩
theorem integerBad_c (bad want:Int) (w:World) (hb:bad≠0):
  Calls Tryz.prog 25 #[.int .i64 0,.int .i64 bad,.int .i64 bad,.int .i64 want] w fun e w'=>e = .returned (.bool true)∧w=w':=by
 have h2:(bad != 0)=true:=by simpa using hb
 clear hb
 go_enter Tryz.func25,Tryz.ntmps25
 go_wp2
 go_ret
 exact⟨by simp,rfl⟩
theorem integerOk_c (x:Int) (w:World):
  Calls Tryz.prog 25 #[.int .i64 x,.int .i64 0,.int .i64 0,.int .i64 x] w fun e w'=>e = .returned (.bool true)∧w=w':=by
 go_enter Tryz.func25,Tryz.ntmps25
 go_wp2
 go_ret
 exact⟨by simp,rfl⟩
section
variable {a:Int}
end
theorem numberBad_c (bad:Int) (l:List UInt8) (w:World) (hb:bad≠0):
  Calls Tryz.prog 24 #[.string ⟨#[]⟩,.int .i64 bad,.int .i64 bad,.string ⟨l.toArray⟩] w fun e w'=>e = .returned (.bool true)∧w=w':=by
 have h1:(bad==0)=false:=by simpa using hb
 have h2:(bad != 0)=true:=by simpa using hb
 obtain⟨s,hs⟩:∃s:ByteArray,s=⟨l.toArray⟩:=⟨_,rfl⟩
 rw[←hs]
 clear hs hb
 go_enter Tryz.func24,Tryz.ntmps24
 go_wp2
 go_ret
 exact⟨by simp,rfl⟩
theorem numberOk_c (l:List UInt8) (w:World) (hl:l.length≤4000000000000000000) (hL:tLarge l=0):
  Calls Tryz.prog 24 #[.string ⟨l.toArray⟩,.int .i64 0,.int .i64 0,.string ⟨l.toArray⟩] w fun e w'=>e = .returned (.bool true)∧w=w':=by
 have LG:=hid (refLarge_c l w hl)
 rw[hL] at LG
 obtain⟨s,hs⟩:∃s:ByteArray,s=⟨l.toArray⟩:=⟨_,rfl⟩
 rw[←hs] at LG ⊢
 clear hs hL hl
 go_enter Tryz.func24,Tryz.ntmps24
 go_wp2_with fail
 refine LG.out.mono ?_
 rintro e w1 ⟨rfl,rfl⟩
 go_wp2
 go_ret
 exact⟨by simp,rfl⟩
def firstL:List Int→Int
 | []=>0
 | x::l=>if x=0 then firstL l else x
theorem firstL_drop {L:List Int} {k:Nat} (hk:k<L.length) (h:firstL (L.drop k)=firstL L):firstL L=if L[k]?.getD 0=0 then firstL (L.drop (k+1)) else L[k]?.getD 0:=by
 rw[←h,List.drop_eq_getElem_cons hk,firstL,List.getElem?_eq_getElem hk];rfl
theorem lfirst_c (v:Value) (L:List Int) (w:World) (hv:Sl w 1 v (icells L)):
  Calls Tryz.prog 23 #[v] w fun e w'=>e = .returned (.int .i64 (firstL L))∧Below w.heap.size w w':=by
 obtain⟨A,c,rfl,hc1,hc2⟩:=hv.form
 simp only[icells_length] at hc1 hv ⊢
 have HV:=hid hv
 clear hv
 obtain⟨r,hr⟩:∃r,firstL L=r:=⟨_,rfl⟩
 have HR:=hid hr
 rw[hr]
 clear hr
 go_enter Tryz.func23,Tryz.ntmps23
 go_wp2_with fail
 go_loopg [3] L.length (fun g i wr=>∃(k:Nat),k+g=L.length∧i = .int .i64 k∧Hid (firstL (L.drop k)=firstL L)∧Below w.heap.size w wr)
 case atStart=>exact⟨0,by omega,rfl,hid rfl,Below.refl _ _⟩
 case round=>
  obtain⟨k,hk,rfl,hD,hB⟩:=hrel
  cases gk with
  | zero=>
   have hin:¬((k:Int)<(L.length:Int)):=by omega
   have HT:Hid (r=0):=hid (by rw[←HR.out,←hD.out,List.drop_eq_nil_of_le (by omega)];rfl)
   clear hk
   go_wp2
   go_ret
   exact⟨by rw[HT.out];rfl,hB⟩
  | succ g=>
   have hlt:(k:Int)<(L.length:Int):=by omega
   have hkl:k<L.length:=by omega
   obtain⟨b1,off1,rfl,hbb1,hcell1⟩:=HV.out.at_ (k:=k) (by rw[icells_length];omega)
   have hck:=(hB.cell (p:=⟨b1,off1+k,none⟩) hbb1).trans ((hcell1 k (by rw[icells_length];omega)).trans (icells_at L k hkl))
   have HS:=hid (firstL_drop hkl hD.out)
   have HK:=hid hk
   clear hcell1 hk
   generalize L[k]?.getD 0=x at *
   by_cases hx:x=0
   ·have HD:Hid (firstL (L.drop (k+1))=firstL L):=hid (by have:=HS.out;rw[if_pos hx] at this;exact this.symm)
    have hb:(x != 0)=false:=by simpa using hx
    clear hx HS
    go_wp2
    go_roundg g
    case rel=>exact⟨k+1,by have:=HK.out;omega,by go_num,HD,hB⟩
    case measure=>omega
   ·have HX:Hid (r=x):=hid (by rw[←HR.out,HS.out,if_neg hx])
    have hb:(x != 0)=true:=by simpa using hx
    clear hx HS
    go_wp2
    go_ret
    exact⟨by rw[HX.out];rfl,hB⟩
theorem slash_rtext (q:Rat):tNum (rtext q)=(if q.num<0 then [45] else [])++decDigits q.num.natAbs∧tDen (rtext q)=(if q.den=1 then [49] else decDigits q.den):=by
 have hd:allDig (decDigits q.num.natAbs):=dec_all _
 have hs:slashAt (rtext q)=((if q.num<0 then [45] else [])++decDigits q.num.natAbs:List UInt8).length:=by
  unfold rtext
  by_cases h1:q.num<0
  ·rw[if_pos h1]
   show slashAt (45::(decDigits q.num.natAbs++_))=_
   have e:∀r:List UInt8,slashAt (45::r)=slashAt r+1:=fun r=>by unfold slashAt;rw[List.findIdx_cons];simp
   rw[e]
   by_cases h2:q.den=1
   ·rw[if_pos h2,List.append_nil,slash_none hd];simp
   ·rw[if_neg h2,slash_app hd];simp
  ·rw[if_neg h1]
   simp only[List.nil_append]
   by_cases h2:q.den=1
   ·rw[if_pos h2,List.append_nil,slash_none hd]
   ·rw[if_neg h2,slash_app hd]
 unfold tNum tDen
 rw[hs]
 constructor
 ·unfold rtext;rw[List.take_left'];rfl
 ·by_cases h2:q.den=1
  ·rw[if_pos h2,if_pos];unfold rtext;rw[if_pos h2,List.append_nil]
  ·rw[if_neg h2,if_neg]
   ·unfold rtext
    rw[if_neg h2,List.drop_append];simp
   ·unfold rtext;rw[if_neg h2];simp
theorem absL_num (n:Nat) (neg:Prop) [Decidable neg]:(tAbs ((if neg then [45] else [])++decDigits n)).length=(decDigits n).length:=by
 have hd:allDig (decDigits n):=dec_all _
 by_cases h1:neg
 ·rw[if_pos h1]
  have:tSign ([45]++decDigits n) = -1:=by
   unfold tSign
   rw[if_neg (by simp),if_pos (by simp)]
  unfold tAbs
  rw[this,if_pos (by decide)]
  simp
 ·rw[if_neg h1,List.nil_append]
  unfold tAbs
  have:¬tSign (decDigits n)<0:=by
   unfold tSign
   split
   ·omega
   ·rw[if_neg];omega
    intro hc
    have hm:=hd 45 (List.mem_of_getElem? hc)
    revert hm;decide
  rw[if_neg this]
theorem large_rtext (q:Rat):tLarge (rtext q)=if 600<(decDigits q.num.natAbs).length∨600<(decDigits q.den).length then 4 else 0:=by
 obtain⟨h1,h2⟩:=slash_rtext q
 unfold tLarge
 rw[h1,absL_num,h2]
 congr 1
 by_cases h:q.den=1
 ·rw[if_pos h,h,decDigits_one (by decide:(1:Nat)<10)];rfl
 ·rw[if_neg h]
end Go.Proofs.YtneafcdfnhnpnaaGreatDoor
