/- Contract: Power. -/
import Derived.Test.YtneafcdfnhnpnaaGreatDoorZD23
import Derived.Test.YtneafcdfnhnpnaaGreatDoorZD22
set_option maxRecDepth 100000
set_option maxHeartbeats 4000000
namespace Go.Proofs.YtneafcdfnhnpnaaGreatDoor
open Go.RowKit Go.Lib Go.Shelf
attribute [local go_sem] Oper.semAt_some
theorem LL (n:Int) (h: -9223372036854775808≤n∧n≤9223372036854775807):IntKind.i64.wrap n=n:=by rw[IntKind.wrap_i64];omega
theorem Vq (p:List Int):∀(f:Nat) (s:List Bool) (i:Nat) (x:Int),x∈(kM p f s i).1→0≤x∧x<s.length
 | 0,s,i,x,h=>by simp[kM] at h
 | f+1,s,i,x,h=>by
  rw[kM] at h;split at h
  ·simp at h
  ·rename_i hs
   simp only[List.mem_cons] at h;rcases h with rfl | h
   ·have:i<s.length:=by
     rcases Nat.lt_or_ge i s.length with h | h
     ·exact h
     ·rw[List.getElem?_eq_none h] at hs;exact absurd rfl hs
    omega
   ·have:=Vq p f _ _ x h
    simpa using this
theorem Ym (p:List Int):∀(k:Nat) (c:List Int),c∈(jW p k).1 → ∀x∈c,0≤x∧x<p.length
 | 0,c,h=>by simp[jW] at h
 | k+1,c,h=>by
  rw[jW] at h;split at h
  ·exact Ym p k c h
  ·simp only[List.mem_append,List.mem_singleton] at h
   rcases h with h | rfl
   ·exact Ym p k c h
   ·intro x hx
    have:=Vq p _ _ _ x hx
    rwa [QR] at this
theorem Vo (p:List Int):∀(f:Nat) (s:List Bool) (i:Nat),(kM p f s i).1.length≤f
 | 0,s,i=>by simp[kM]
 | f+1,s,i=>by
  rw[kM];split
  ·simp
  ·have:=Vo p f (s.set i true) (p[i]?.getD 0).toNat
   simpa using this
theorem Yn (p:List Int):∀(k:Nat) (c:List Int),c∈(jW p k).1→c.length≤p.length
 | 0,c,h=>by simp[jW] at h
 | k+1,c,h=>by
  rw[jW] at h;split at h
  ·exact Yn p k c h
  ·simp only[List.mem_append,List.mem_singleton] at h
   rcases h with h | rfl
   ·exact Yn p k c h
   ·exact Vo p _ _ _
def yG (c:List Int) (t:Nat) (r:List Int):Nat→List Int
 | 0=>r
 | i+1=>(yG c t r i).set (c[i]?.getD 0).toNat (c[(i+t)%c.length]?.getD 0)
def Qc (k:Int) (r:List Int) (c:List Int):List Int:=yG c (k%(c.length:Int)).toNat r c.length
def yH (p:List Int) (k:Int) (cs:List (List Int)):List Int:=cs.foldl (Qc k) (List.replicate p.length 0)
def Ww (p:List Int) (k:Int):List Int:=yH p k (qI p)
theorem Zk (c:List Int) (t:Nat) (r:List Int):∀i,(yG c t r i).length=r.length
 | 0=>rfl
 | i+1=>by rw[yG,List.length_set,Zk c t r i]
theorem Wx (p:List Int) (k:Int) (cs:List (List Int)):(yH p k cs).length=p.length:=by
 have h:∀(cs:List (List Int)) (r:List Int),(cs.foldl (Qc k) r).length=r.length:=by
  intro cs
  induction cs with
  | nil=>intro r;rfl
  | cons c cs ih=>intro r;rw[List.foldl_cons,ih,Qc,Zk]
 rw[yH,h,List.length_replicate]
theorem Bv (p:List Int) (k:Int) (cs:List (List Int)) (c:List Int):yH p k (cs++[c])=Qc k (yH p k cs) c:=by simp[yH]
theorem Ed (v:Value) (p:List Int) (k:Int) (w:World) (hv:Sl w 1 v (je p)):Calls Tryz.prog 48 #[v,.int .i64 k] w (DF (kh p) (Ww p k) w):=by
 obtain⟨A,c,rfl,hc1,hc2⟩:=hv.form;simp only[kx] at hc1 hv ⊢;have CP:=hid (fun W h=>Qs (.slice A p.length c) p W h);by_cases he:kh p=0
 ·have hPp:yw p∧p.length≤256:=by unfold kh at he;split at he;omega;split at he;exact⟨by assumption,by omega⟩;omega
  have HV:=hid hv;have He:=hid he;obtain⟨hP,hl⟩:=hPp;have HP:=hid hP
  have hmk:=fun W=>Jw W p.length (by omega)
  clear hv he hP;refine(callsIn_wide (n:=4)).1 ?_;refine callsIn_of_wp_marks Tryz.func48 rfl trivial ?_ rfl;simp only[Tryz.ntmps48,List.size_toArray,List.length_cons,List.length_nil,Nat.reduceAdd,Nat.reduceSub,Array.replicate_succ,Array.replicate_zero,List.push_toArray,List.append_toArray,List.nil_append,List.cons_append]
  gi_wp2_with (first | (refine⟨trivial,?_⟩;gi_at_call 45;refine(callsIn_wide.2 (CP.out _ (HV.out.alloc _))).mono ?_;rintro e w1 ⟨rfl,hB1⟩;rw[He.out]) | (refine⟨trivial,?_⟩;gi_at_call 136;refine(callsIn_wide.2 (Yo _ _ _ _)).mono ?_;rintro e w2 ⟨rfl,rfl⟩))
  have hn1:=hB1.size;simp only[World.size_alloc] at hn1;have hK1:ja w1 w.heap.size 3 [.int .i64 k]:=(ja.make w 3 [.int .i64 k]).below hB1 (by simp);have hBw1:Below w.heap.size w w1:=((Below.refl _ w).alloc (Nat.le_refl _) _).trans (hB1.mono (by simp));have hHV:=(HV.out.alloc (.cells #[.int .i64 k] 3)).below hB1;clear hB1;have hal:Below w1.heap.size w1 (((w1.alloc (.cells (je (List.replicate p.length 0)).toArray 3)).alloc (.cells #[.slice (some ⟨w1.heap.size,0,none⟩) p.length p.length] 50)).alloc (.cells #[.slice A p.length c] 50)):=(((Below.refl _ w1).alloc (Nat.le_refl _) _).alloc (by simp) _).alloc (by simp;omega) _;have hOs:=((ja.make w1 3 (je (List.replicate p.length 0))).alloc (.cells #[.slice (some ⟨w1.heap.size,0,none⟩) p.length p.length] 50)).alloc (.cells #[.slice A p.length c] 50);have hOq:=(ja.make (w1.alloc (.cells (je (List.replicate p.length 0)).toArray 3)) 50 [.slice (some ⟨w1.heap.size,0,none⟩) p.length p.length]).alloc (.cells #[.slice A p.length c] 50);have hOb:=ja.make ((w1.alloc (.cells (je (List.replicate p.length 0)).toArray 3)).alloc (.cells #[.slice (some ⟨w1.heap.size,0,none⟩) p.length p.length] 50)) 50 [.slice A p.length c];simp only[World.size_alloc] at hOq hOb;have hsl:=hHV.below hal;have hBw:=hBw1.trans (hal.mono (by omega));have hKa:=hK1.below hal (by omega)
  have hsz:(((w1.alloc (.cells (je (List.replicate p.length 0)).toArray 3)).alloc (.cells #[.slice (some ⟨w1.heap.size,0,none⟩) p.length p.length] 50)).alloc (.cells #[.slice A p.length c] 50)).heap.size=w1.heap.size+3:=by simp
  obtain⟨w3,hw3⟩:∃w3,w3=(((w1.alloc (.cells (je (List.replicate p.length 0)).toArray 3)).alloc (.cells #[.slice (some ⟨w1.heap.size,0,none⟩) p.length p.length] 50)).alloc (.cells #[.slice A p.length c] 50)):=⟨_,rfl⟩
  rw[←hw3] at hal hOs hOq hOb hsl hsz hBw hKa ⊢;clear hw3 hmk;obtain⟨b0,off,hRd,hb0⟩:=x6.ofSl (Bp:=w1.heap.size+1+1) hsl (by omega)
  have hb0w:b0=w1.heap.size+1+1∨(p≠[]∧b0<w1.heap.size):=by
   rcases hb0 with h | h
   ·exact .inl h
   ·refine .inr ⟨h,?_⟩
    obtain⟨b,o,hA,hb,_⟩:=hHV.at_ (k:=0) (by rw[kx];exact List.length_pos_iff.2 h);have h1:=(hRd.2 0 _ (kA p 0 (List.length_pos_iff.2 h))).1;rw[hA] at h1;cases h1;exact hb
  refine Zq (gf:=191) (lb:= #[.pointer (some ⟨w1.heap.size+1+1,0,none⟩)]) (xs:=qI p) (Pr:=Jj) (Kp:=xR (w1.heap.size+1+1) b0) rfl (enters_of Tryz.func191 (by kernel_rfl) rfl)
   (fun W hW hs=>Yp p A c (w1.heap.size+1+1) b0 off HP.out hl W ((hW.cell (p:=⟨w1.heap.size+1+1,0,none⟩) (by simp;omega)).trans (hOb.cell 0)) (by omega) (hRd.same hW.size (hW.block b0 (by rcases hb0w with h | h <;> omega)))) rfl
   (fun pre A=>ja A w1.heap.size 3 (je (yH p k pre))∧ja A (w1.heap.size+1) 50 [.slice (some ⟨w1.heap.size,0,none⟩) p.length p.length]∧ja A w.heap.size 3 [.int .i64 k]∧Below w.heap.size w A)
   (fun pre A A' h hb=>⟨h.1.but hb (by omega),h.2.1.but hb (by omega),h.2.2.1.but hb (by omega),h.2.2.2.trans (hb.toBelow (by omega) h.2.2.2.size)⟩)
   (fun pre A l o h hl _=>⟨h.1.putObjQ (by omega) o,h.2.1.putObjQ (by omega) o,h.2.2.1.putObjQ (by omega) o,Below.putObjQ h.2.2.2 (by omega) o⟩)
   (fun A B C h k=>h.trans k) (fun A o hlt=>xR.putObjQ _ _ _ _ A o (by omega) (by omega) (by rcases hb0w with h | h <;> omega))
   (fun x v A o hlt h=>h.putObjQ (by omega) o)
   (fun o1 o2=>⟨(hOs.alloc _).alloc _,(hOq.alloc _).alloc _,(hKa.alloc _).alloc _,(hBw.alloc (by omega) _).alloc (by simp;omega) _⟩)
   (fun v=> { tmps:= #[.slice A p.length c,.int .i64 k,undef,.pointer (some ⟨w.heap.size,0,none⟩),.slice none 0 0,.int .i64 0,.int .i64 0,.pointer (some ⟨w1.heap.size+1,0,none⟩),v,undef,undef,undef,undef,.slice A p.length c,.int .i64 0,.int .i64 0,.bool false,undef,.slice A p.length c,.int .i64 p.length,.slice (some ⟨w1.heap.size,0,none⟩) p.length p.length,.slice A p.length c,.func (.func 191) #[] #[.pointer (some ⟨w1.heap.size+1+1,0,none⟩)],v,undef,undef,undef,undef,undef,undef,undef,undef,undef,undef,undef,undef,undef,undef,undef,undef,undef,undef,undef,undef,undef,undef,undef,undef,undef,undef,undef,undef,undef],defers:=[] })
   ?assign ?body ?done
  case assign=>
   intro l v W K hK
   gi_wp2
   exact hK
  case body=>
   rintro l pre x post v A' hx ⟨hO,hQ,hK,hB⟩ hlt ⟨base,hb1,hb2,hrow,hne⟩;obtain⟨A2,c2,rfl,hc3,hc4⟩:=j7 hrow;have hpe:=UM hx;have hxm:∀y∈x,0≤y∧y<p.length:=Ym p p.length x (by rw[show (jW p p.length).1=qI p from rfl,hx];simp);have hxl:x.length≤256:=Nat.le_trans (Yn p p.length x (by rw[show (jW p p.length).1=qI p from rfl,hx];simp)) hl
   have hb0':b0≠w1.heap.size:=by
    rcases hb0w with h | h
    ·omega
    ·omega
   have hn0:0<x.length:=List.length_pos_iff.2 hne;unfold maxLen at hc4
   have hnz:((x.length:Int)==0)=false:=by simp;omega
   have hnz2:(x.length:Int)≠0:=by omega
   have hkc:A'.cell? ⟨w.heap.size,0,none⟩=some (.int .i64 k):=hK.cell 0;have hre:=Gf k x.length (by omega) (by omega);have hem:=Int.emod_nonneg k hnz2;have hel:=Int.emod_lt_of_pos k (show (0:Int)<x.length by omega);obtain⟨t,ht⟩:=Int.eq_ofNat_of_zero_le hem
   have htn:t<x.length:=by omega
   have hst:yH p k (pre++[x])=yG x t (yH p k pre) x.length:=by rw[Bv];unfold Qc;rw[ht];rfl
   have hrl:(yH p k pre).length=p.length:=Wx p k pre;rw[ht] at hre;have HST:=hid hst;have HO:=hid hO;have HQ:=hid hQ;have HK:=hid hK;have HB:=hid hB;have HXM:=hid hxm;have HRW:=hid hrow;have HRE:=hid hre;have HRL:=hid hrl;clear hO hQ hK hB hrow hxm hst hem hel ht hre hrl hx hne;generalize hr0:yH p k pre=r0 at *;clear hr0
   gi_wp2
   rw[HRE.out];clear hnz hkc hnz2 HRE
   gi_loopg [35] x.length (fun gh ix wx=>∃j:Nat,ix = .int .i64 j∧j+gh=x.length∧Hid (ja wx w1.heap.size 3 (je (yG x t r0 j)))∧Hid (jh w1.heap.size A' wx))
   case atStart=>exact⟨0,rfl,by omega,HO,hid (jh.refl _ _)⟩
   case round=>
    obtain⟨j,rfl,hj,hOx,hBx⟩:=hrel
    cases gk with
    | zero=>
     have hin:¬((j:Int)<(x.length:Int)):=by omega
     have hjn:j=x.length:=by omega
     subst hjn
     gi_wp2
     have hbx:=hBx.out;have hO2:=hOx.out;rw[←HST.out] at hO2
     exact⟨hbx.block _ (by omega) (by omega),hbx.block _ (by omega) (by omega),⟨hO2,HQ.out.but hbx (by omega),HK.out.but hbx (by omega),HB.out.trans (hbx.toBelow (by omega) HB.out.size)⟩,
      hbx.size,hbx.block _ (by omega) (by omega),hbx.block _ (by omega) (by omega),hbx.block _ (by rcases hb0w with h | h <;> omega) hb0'⟩
    | succ gh=>
     have hlt:(j:Int)<(x.length:Int):=by omega
     have hjl:j<x.length:=by omega
     have hjt:(j+t)%x.length<x.length:=Nat.mod_lt _ hn0;obtain⟨g,rfl,hgb,hgl,hgc⟩:=z6 HRW.out hjl;have hc1:=(World.cell?_of_block (a:=⟨g,j,none⟩) (hBx.out.block g hgl (by omega))).trans ((hgc j hjl).trans (kA x j hjl));have hc2':=(World.cell?_of_block (a:=⟨g,(j+t)%x.length,none⟩) (hBx.out.block g hgl (by omega))).trans ((hgc _ hjt).trans (kA x _ hjt));have hq:wr.cell? ⟨w1.heap.size+1,0,none⟩=some (.slice (some ⟨w1.heap.size,0,none⟩) p.length p.length):=(HQ.out.but hBx.out (by omega)).cell 0;have hxj:=HXM.out (x[j]?.getD 0) (by rw[List.getElem?_eq_getElem hjl];exact List.getElem_mem hjl)
     have hnz2:(x.length:Int)≠0:=by omega
     have hne:¬x=[]:=List.length_pos_iff.1 hn0
     have hne2:¬x.length=0:=by omega
     have hwj:Hid (IntKind.i64.wrap ((j:Int)+(t:Int))=(j:Int)+(t:Int)):=hid (LL _ (by omega));have hpr:yG x t r0 (j+1)=(yG x t r0 j).set (x[j]?.getD 0).toNat (x[(j+t)%x.length]?.getD 0):=rfl
     have htm:((j:Int)+(t:Int)).tmod (x.length:Int)=(((j+t)%x.length:Nat):Int):=by
      rw[Int.tmod_eq_emod_of_nonneg (by omega)];simp
     generalize (j+t)%x.length=jt at *;have hjt1:(jt:Int)<(x.length:Int):=Int.ofNat_lt.2 hjt;have hnz:((x.length:Int)==0)=false:=beq_eq_false_iff_ne.2 hnz2;have hOl:=hOx.out.lt;generalize x[j]?.getD 0=y at *;generalize x[jt]?.getD 0=z at *;obtain⟨m,rfl⟩:=Int.eq_ofNat_of_zero_le hxj.1
     have hm:m<p.length:=by omega
     rw[Int.toNat_natCast] at hpr;have hfr:=hOx.out.free m;have hcm:=hOx.out.cell m;rw[kA _ m (by rw[Zk,HRL.out];exact hm)] at hcm;generalize (yG x t r0 j)[m]?.getD 0=zz at *;have HPR:=hid hpr;have HTM:=hid htm;clear hpr hxj hgc htm
     gi_wp2
     have htm:=HTM.out;have HWJ:=hwj.out;clear hwj;refine LH (F:=Fence.wide) (by kernel_rfl) (by kernel_rfl) ?_;refine wpAnyIn_take (i:=1) (v:= .int .i64 m) rfl rfl (by kernel_rfl) (by kernel_rfl) (by kernel_rfl) (fun _ _ _ h=>h) ⟨Or.inl ⟨by rfl,?_⟩,fun _=>rfl⟩ ?_
     ·intro w;go_simp;try exact HWJ
     refine wpAnyIn_take (i:=2) (v:= .slice (some ⟨g,0,none⟩) x.length c2) rfl rfl (by kernel_rfl) (by kernel_rfl) (by kernel_rfl) (fun _ _ _ h=>h) ⟨Or.inl ⟨by rfl,?_⟩,fun _=>rfl⟩ ?_
     ·intro w;go_simp;try exact HWJ
     refine wpAnyIn_take (i:=3) (v:= .int .i64 j) rfl rfl (by kernel_rfl) (by kernel_rfl) (by kernel_rfl) (fun _ _ _ h=>h) ⟨Or.inl ⟨by rfl,?_⟩,fun _=>rfl⟩ ?_
     ·intro w;go_simp;try exact HWJ
     refine wpAnyIn_take (i:=4) (v:= .int .i64 t) rfl rfl (by kernel_rfl) (by kernel_rfl) (by kernel_rfl) (fun _ _ _ h=>h) ⟨Or.inl ⟨by rfl,?_⟩,fun _=>rfl⟩ ?_
     ·intro w;go_simp;try exact HWJ
     refine wpAnyIn_take (i:=6) (v:= .int .i64 x.length) rfl rfl (by kernel_rfl) (by kernel_rfl) (by kernel_rfl) (fun _ _ _ h=>h) ⟨Or.inl ⟨by rfl,?_⟩,fun _=>rfl⟩ ?_
     ·intro w;go_simp;try exact HWJ
     refine wpAnyIn_take (i:=5) (v:= .int .i64 ((j:Int)+(t:Int))) rfl rfl (by kernel_rfl) (by kernel_rfl) (by kernel_rfl) (fun _ _ _ h=>h) ⟨Or.inl ⟨by rfl,?_⟩,fun _=>rfl⟩ ?_
     ·intro w;go_simp;try exact HWJ
     refine wpAnyIn_take (i:=7) (v:= .int .i64 jt) rfl rfl (by kernel_rfl) (by kernel_rfl) (by kernel_rfl) (fun _ _ _ h=>h) ⟨Or.inl ⟨by rfl,?_⟩,fun _=>rfl⟩ ?_
     ·intro w;go_simp;try exact HWJ
     refine wpAnyIn_take (i:=8) (v:= .pointer (some ⟨g,jt,none⟩)) rfl rfl (by kernel_rfl) (by kernel_rfl) (by kernel_rfl) (fun _ _ _ h=>h) ⟨Or.inl ⟨by rfl,?_⟩,fun _=>rfl⟩ ?_
     ·intro w;go_simp;try exact HWJ
     refine wpAnyIn_ready (rs:=[0,9]) (by kernel_rfl) (by simp) ?_;refine AllReadyIn.cons rfl (fun K hK=> ?_) (AllReadyIn.cons rfl (fun K hK=> ?_) AllReadyIn.nil)
     ·go_simp;refine hK _ _ ?_;clear hK K
      refine wpAnyIn_ready (rs:=[9]) (by kernel_rfl) (by simp) ?_;refine AllReadyIn.cons rfl (fun K hK=> ?_) AllReadyIn.nil
      go_simp;refine hK _ _ ?_;clear hK K
      refine wpAnyIn_ready (rs:=[10]) (by kernel_rfl) (by simp) ?_;refine AllReadyIn.cons rfl (fun K hK=> ?_) AllReadyIn.nil
      go_simp;refine hK _ _ ?_;clear hK K
      refine wpAnyIn_ready (rs:=[11]) (by kernel_rfl) (by simp) ?_;refine AllReadyIn.cons rfl (fun K hK=> ?_) AllReadyIn.nil
      go_simp;refine hK _ _ ?_;clear hK K
      refine wpAnyIn_done (by kernel_rfl) ?_ _
      gi_wp2
      have hOd:ja wr.drew w1.heap.size 3 (je (yG x t r0 j)):=hOx.out;have hOe:=hOd.put m (.int .i64 z);rw[xK,←HPR.out] at hOe;have hBd:=hBx.out.drew.setCell ⟨w1.heap.size,m,none⟩ rfl (.int .i64 z)
      gi_roundg gh
      case rel=>exact⟨j+1,by go_num,by omega,hid hOe,hid hBd⟩
      case measure=>omega
     ·go_simp;refine hK _ _ ?_;clear hK K
      refine wpAnyIn_ready (rs:=[0]) (by kernel_rfl) (by simp) ?_;refine AllReadyIn.cons rfl (fun K hK=> ?_) AllReadyIn.nil
      go_simp;refine hK _ _ ?_;clear hK K
      refine wpAnyIn_ready (rs:=[10]) (by kernel_rfl) (by simp) ?_;refine AllReadyIn.cons rfl (fun K hK=> ?_) AllReadyIn.nil
      go_simp;refine hK _ _ ?_;clear hK K
      refine wpAnyIn_ready (rs:=[11]) (by kernel_rfl) (by simp) ?_;refine AllReadyIn.cons rfl (fun K hK=> ?_) AllReadyIn.nil
      go_simp;refine hK _ _ ?_;clear hK K
      refine wpAnyIn_done (by kernel_rfl) ?_ _
      gi_wp2
      have hOd:ja wr.drew w1.heap.size 3 (je (yG x t r0 j)):=hOx.out;have hOe:=hOd.put m (.int .i64 z);rw[xK,←HPR.out] at hOe;have hBd:=hBx.out.drew.setCell ⟨w1.heap.size,m,none⟩ rfl (.int .i64 z)
      gi_roundg gh
      case rel=>exact⟨j+1,by go_num,by omega,hid hOe,hid hBd⟩
      case measure=>omega
  case done=>
   rintro W ⟨hO,hQ,hK,hB⟩ hD;have hcl:W.cell? ⟨w1.heap.size+1,0,none⟩=some (.slice (some ⟨w1.heap.size,0,none⟩) p.length p.length):=hQ.cell 0;have HB:=hid hB;have HD:=hid hD;have HO:=hid hO;clear hB hD hO hQ hK
   gi_wp2
   refine⟨by simp,.inl ⟨_,_,rfl,run_takeDeferred HD.out,?_⟩⟩;refine⟨_,results_tmp2 rfl _ _ _,?_,Below.putObjQ HB.out (by omega) _⟩;rw[if_pos He.out];exact⟨_,rfl,(HO.out.putObjQ (by omega) _).sl _ (by rw[kx,Wx]) (by omega)⟩
 ·have hne:(kh p != 0)=true:=by simpa using he
  have He:=hid he;have HV:=hid hv;clear he hv;go_enter Tryz.func48,Tryz.ntmps48
  go_wp2_with fail
  refine(CP.out _ (HV.out.alloc _)).mono ?_;rintro e w1 ⟨rfl,hB1⟩;have HB1:=hid hB1;clear hB1 CP;generalize hec:kh p=ec at *;have HEC:=hid hec;clear hec
  go_wp2
  go_ret2;exact⟨by rw[if_neg He.out];rfl,((Below.refl _ _).alloc (Nat.le_refl _) _).trans (HB1.out.mono (by simp))⟩
end Go.Proofs.YtneafcdfnhnpnaaGreatDoor
namespace Go.Proofs.YtneafcdfnhnpnaaGreatDoor
open Go.RowKit
def yr (L:List Int):Prop:=∀x∈L,-999999999≤x∧x≤999999999
def Kc (x:Int):Int:=qk x (-999999999) 999999999
theorem AJ {x:Int} (h: -999999999≤x∧x≤999999999):Kc x=0:=by unfold Kc qk;rw[if_pos h]
theorem AI {x:Int} (h:¬(-999999999≤x∧x≤999999999)):Kc x=3:=by unfold Kc qk;rw[if_neg h]
theorem WW (x:Int) (w:World):Calls Tryz.prog 210 #[.int .i64 x] w fun e w'=>e = .returned (.tuple #[.int .i64 x,.int .i64 (Kc x)])∧w=w':=by
 obtain⟨v,hv⟩:∃v,v=Kc x:=⟨_,rfl⟩
 have BD:=Lib.hid (fun W=>(by rw[hv];exact KB x W:Calls Tryz.prog 129 #[.int .i64 x] W fun e w'=>e = .returned (.int .i64 v)∧W=w'));rw[←hv];clear hv;go_enter Tryz.func210,Tryz.ntmps210
 go_wp2_with (go_at_call 129;refine(BD.out _).mono ?_;rintro e w' ⟨rfl,rfl⟩)
 go_ret2;exact⟨rfl,rfl⟩
def xi (L:List Int) (k:Nat):List Int:=L.take k++List.replicate (L.length-k) 0
theorem WE (L:List Int) (k:Nat) (h:k≤L.length):(xi L k).length=L.length:=by simp[xi];omega
theorem WF (L:List Int) (k:Nat) (h:k<L.length):(xi L k).set k (L[k]?.getD 0)=xi L (k+1):=by
 unfold xi;rw[XG L k h,List.set_append_right _ _ (by simp;omega),show L.length-k=(L.length-(k+1))+1 by omega,List.replicate_succ,List.length_take,Nat.min_eq_left (by omega),Nat.sub_self,List.set_cons_zero,List.append_assoc];rfl
theorem WG (L:List Int):xi L 0=List.replicate L.length 0:=by simp[xi]
theorem WC (L:List Int):xi L L.length=L:=by simp[xi]
theorem DJ (w:World) (n:Nat) (hn:n≤17592186044416):(Instr.makeSlice 192 (.int .i64 (n:Int)) (.int .i64 (n:Int))).run Tryz.prog w = .ok (.slice (some ⟨w.heap.size,0,none⟩) n n) (w.alloc (.cells (je (List.replicate n 0)).toArray 2)):=by
 have:=VO w n hn;simpa [kK,je] using this
def Sg (L:List Int) (w:World) (e:Ending) (w':World):Prop:=
 Below w.heap.size w w'∧((yr L ∧ ∃g,e = .returned (.tuple #[.slice (some ⟨g,0,none⟩) L.length L.length,.int .i64 0])∧w.heap.size≤g∧ja w' g 2 (je L))∨(¬yr L∧e = .returned (.tuple #[jm,.int .i64 3])))
theorem Si (v:Value) (L:List Int) (w:World) (hv:Sl w 1 v (je L)) (hl:L.length≤1000000):
  Calls Tryz.prog 238 #[v,.func (.func 210) #[] #[]] w (Sg L w):=by
 obtain⟨A,c,rfl,hc1,hc2⟩:=hv.form;simp only[kx] at hc1 hv ⊢;have hmk:=DJ w L.length (by omega);have HO:=Lib.hid (ja.make w 2 (je (List.replicate L.length 0)));go_enter Tryz.func238,Tryz.ntmps238
 go_wp2_with fail
 go_loopg [15] L.length (fun gh i wr=>∃k:Nat,i = .int .i64 k∧k+gh=L.length∧Hid (yr (L.take k))∧Hid (ja wr w.heap.size 2 (je (xi L k)))∧Below w.heap.size w wr)
 case atStart=>exact⟨0,rfl,by omega,Lib.hid (by unfold yr;simp),Lib.hid (by rw[WG];exact HO.out),(Below.refl _ _).alloc (Nat.le_refl _) _⟩
 case round=>
  clear hmk HO;obtain⟨k,rfl,hk,hI,hO,hB⟩:=hrel
  cases gk with
  | zero=>
   have hkl:k=L.length:=by omega
   have hin:¬((k:Int)<(L.length:Int)):=by omega
   have HI:=Lib.hid (show yr L by have:=hI.out;rwa [hkl,List.take_of_length_le (Nat.le_refl _)] at this);have HO:=Lib.hid (show ja wr w.heap.size 2 (je L) by have:=hO.out;rwa [hkl,WC] at this);clear hkl hI hO hk
   go_wp2
   go_ret2;exact⟨hB,.inl ⟨HI.out,_,rfl,Nat.le_refl _,HO.out⟩⟩
  | succ gh=>
   have hlt:k<L.length:=by omega
   obtain⟨b0,off,rfl,hbb,hcell⟩:=hv.at_ (k:=k) (by rw[kx];omega);have hck:=(hB.cell (p:=⟨b0,off+k,none⟩) hbb).trans ((hcell k (by rw[kx];omega)).trans (kA L k hlt));have hck2:=(hO.out.cell k).trans (kA _ k (by rw[WE L k (by omega)];omega));have hfr:=hO.out.free k;have Hs:=Lib.hid (WF L k hlt);have Ht:=Lib.hid (XG L k hlt);have Hm:Hid (L[k]?.getD 0∈L):=Lib.hid (by rw[List.getElem?_eq_getElem hlt];exact List.getElem_mem hlt);have Hk:=Lib.hid hk;generalize L[k]?.getD 0=x at *;generalize (xi L k)[k]?.getD 0=y at *;clear hcell hv hk;by_cases hx: -999999999≤x∧x≤999999999
   ·have HX:=Lib.hid hx
    have HE:=Lib.hid (AJ hx);clear hx
    go_wp2_with (go_at_call 210;refine(WW _ _).mono ?_;rintro e w' ⟨rfl,rfl⟩;rw[HE.out])
    have HO2:Hid (ja (wr.setCell ⟨w.heap.size,k,none⟩ (.int .i64 x)) w.heap.size 2 (je (xi L (k+1)))):=Lib.hid (by rw[←Hs.out,←xK];exact hO.out.put _ _)
    go_roundg gh
    case rel=>exact⟨k+1,by go_num,by have:=Hk.out;omega,Lib.hid (by rw[Ht.out];intro z hz;rcases List.mem_append.1 hz with h | h;exact hI.out z h;rw[List.mem_singleton.1 h];exact HX.out),HO2,hB.setCell (by simp) _⟩
    case measure=>omega
   ·have HX:=Lib.hid hx
    have HE:=Lib.hid (AI hx);clear hx
    go_wp2_with (go_at_call 210;refine(WW _ _).mono ?_;rintro e w' ⟨rfl,rfl⟩;rw[HE.out])
    go_ret2;exact⟨hB.setCell (by simp) _,.inr ⟨fun h=>HX.out (h _ Hm.out),rfl⟩⟩
def yW (w:World) (v:Value) (M:List (List Int)):Prop:=
 ∃vs:List Value,Sl w 1 v vs∧vs.length=M.length ∧ ∀(i:Nat) (r:List Int),M[i]? =some r → ∃u,vs[i]? =some u∧Sl w 1 u (je r)
instance (L:List Int):Decidable (yr L):=by unfold yr;infer_instance
def yK (n0:Nat):List (List Int)→Int
 | []=>0
 | r::t=>if 256<r.length then 5 else if r.length≠n0 then 2 else if yr r then yK n0 t else 3
def kN (M:List (List Int)):Int:=if 256<M.length then 5 else yK ((M[0]?.map (·.length)).getD 0) M
theorem C8 (n0 k:Nat) (M:List (List Int)) {r:List Int} (hr:M[k]? =some r):yK n0 (M.drop k)=if 256<r.length then 5 else if r.length≠n0 then 2 else if yr r then yK n0 (M.drop (k+1)) else 3:=by
 obtain⟨hk,rfl⟩:=List.getElem?_eq_some_iff.1 hr;rw[List.drop_eq_getElem_cons hk];rfl
def Fb (M:List (List Int)) (w:World) (e:Ending) (w':World):Prop:=
 Below w.heap.size w w'∧((kN M=0 ∧ ∃(g:Nat) (R:List jR),e = .returned (.tuple #[.slice (some ⟨g,0,none⟩) M.length M.length,.int .i64 0])∧w.heap.size≤g∧(∀r∈R,w.heap.size≤r.1)∧ki w' g R ((M[0]?.map (·.length)).getD 0)∧R.map (·.2.2)=M) ∨
  (kN M≠0∧e = .returned (.tuple #[jm,.int .i64 (kN M)])))
theorem DK (w:World) (n:Nat) (hn:n≤1000000):(Instr.makeSlice 189 (.int .i64 (n:Int)) (.int .i64 (n:Int))).run Tryz.prog w = .ok (.slice (some ⟨w.heap.size,0,none⟩) n n) (w.alloc (.cells (List.replicate n jm).toArray 192)):=by
 have:=run_make_row' (P:=Tryz.prog) 189 192 jm 24 Tryz.underlying189 Vv rfl .i64 .i64 n (by omega) (by omega) w;rw[zY] at this;exact this
structure JT (w wr:World) (g n:Nat) (M:List (List Int)) (k:Nat) (R:List jR):Prop where
 own:ja wr g 192 (R.map (qz n)++List.replicate (M.length-k) jm)
 rows:∀r∈R,ja wr r.1 2 (je r.2.2)∧r.2.2.length=n∧n≤r.2.1∧r.2.1≤1000000
 new:∀r∈R,w.heap.size≤r.1
 apart:(R.map (·.1)).Nodup
 vals:R.map (·.2.2)=M.take k
theorem JT.len {w wr:World} {g n:Nat} {M:List (List Int)} {k:Nat} {R:List jR} (h:JT w wr g n M k R) (hk:k≤M.length):R.length=k:=by
 have:=congrArg List.length h.vals;simp at this;omega
theorem JT.step {w wr w1:World} {g n gn:Nat} {M:List (List Int)} {k:Nat} {R:List jR} {r:List Int} (h:JT w wr g n M k R) (hk:M[k]? =some r) (hl:r.length=n) (hn:n≤1000000) (hb:Below wr.heap.size wr w1) (hg:wr.heap.size≤gn) (hgn:w.heap.size≤gn) (hO:ja w1 gn 2 (je r)):
  JT w (w1.setCell ⟨g,k,none⟩ (.slice (some ⟨gn,0,none⟩) n n)) g n M (k+1) (R++[(gn,n,r)]):=by
 have hkl:k<M.length:=(List.getElem?_eq_some_iff.1 hk).1;have hR:=h.len (by omega);have hglt:=h.own.lt;refine⟨?_,?_,?_,?_,?_⟩
 ·have:=(h.own.below hb hglt).put k (.slice (some ⟨gn,0,none⟩) n n)
  rw[List.set_append_right _ _ (by simp[hR]),show M.length-k=(M.length-(k+1))+1 by omega,List.replicate_succ,List.length_map,hR,Nat.sub_self,List.set_cons_zero] at this;rw[List.map_append,List.append_assoc];exact this
 ·intro x hx
  rcases List.mem_append.1 hx with hx | hx
  ·have:=h.rows x hx
   have hxl:=this.1.lt
   exact⟨(this.1.below hb hxl).other (p:=⟨g,k,none⟩) (fun e=>by
    have h1:=this.1;have h2:=h.own;unfold ja at h1 h2;rw[show x.1=g from e] at h1;rw[h2] at h1
    injection h1 with h1
    injection h1 with _ h1
    exact absurd h1 (by decide)) _,this.2⟩
  ·obtain rfl:=List.mem_singleton.1 hx
   exact⟨hO.other (p:=⟨g,k,none⟩) (fun e=>by simp at e;omega) _,hl,Nat.le_refl _,hn⟩
 ·intro x hx
  rcases List.mem_append.1 hx with hx | hx
  ·exact h.new x hx
  ·obtain rfl:=List.mem_singleton.1 hx;exact hgn
 ·rw[List.map_append,List.nodup_append]
  refine⟨h.apart,by simp,fun a ha b hb'=> ?_⟩;obtain⟨x,hx,rfl⟩:=List.mem_map.1 ha;simp at hb';have:=(h.rows x hx).1.lt;omega
 ·rw[List.map_append,h.vals,List.take_add_one,hk];rfl
theorem BZ (v:Value) (M:List (List Int)) (w:World) (hv:yW w v M):
  Calls Tryz.prog 209 #[v,.func (.func 210) #[] #[]] w (Fb M w):=by
 obtain⟨vs,hs,hvl,hrow⟩:=hv;obtain⟨A,c,rfl,hc1,hc2⟩:=hs.form;have HROW:=Lib.hid hrow;clear hrow;rw[hvl] at hc1 hs ⊢;by_cases hbig:256<M.length
 ·have HE:Hid (kN M=5):=Lib.hid (by unfold kN;rw[if_pos hbig])
  have hbi:(256:Int)<(M.length:Int):=by omega
  clear hs;go_enter Tryz.func209,Tryz.ntmps209
  go_wp2
  go_ret2;exact⟨Below.refl _ _,.inr ⟨by rw[HE.out];decide,by rw[HE.out];rfl⟩⟩
 ·have hbi:¬(256:Int)<(M.length:Int):=by omega
  obtain⟨n,hn⟩:∃n,n=(M[0]?.map (·.length)).getD 0:=⟨_,rfl⟩
  have HN:=Lib.hid hn;have HME:Hid (kN M=yK n M):=Lib.hid (by unfold kN;rw[if_neg hbig,hn]);clear hn;have hmk:=DK w M.length (by omega);have HO:=Lib.hid (ja.make w 192 (List.replicate M.length jm));have hB0:Below w.heap.size w (w.alloc (.cells (List.replicate M.length jm).toArray 192)):=(Below.refl _ _).alloc (Nat.le_refl _) _;go_enter Tryz.func209,Tryz.ntmps209
  go_wp2_with fail
  go_loopg [18] M.length (fun gh i wr=>∃(k:Nat) (R:List jR),i = .int .i64 k∧k+gh=M.length∧Hid (yK n M=yK n (M.drop k))∧Hid (JT w wr w.heap.size n M k R)∧Below w.heap.size w wr)
  case atStart=>exact⟨0,[],rfl,by omega,Lib.hid rfl,Lib.hid ⟨by simpa using HO.out,by simp,by simp,by simp,by simp⟩,hB0⟩
  case round=>
   clear hmk HO hB0;obtain⟨k,R,rfl,hk,hE,hT,hB⟩:=hrel
   cases gk with
   | zero=>
    have hkl:k=M.length:=by omega
    have hin:¬((k:Int)<(M.length:Int)):=by omega
    have HR:Hid (kN M=0):=Lib.hid (by rw[HME.out,hE.out,hkl,List.drop_length];rfl)
    have HMX:Hid (ki wr w.heap.size R n∧R.map (·.2.2)=M):=Lib.hid (by
     have h:=hT.out;rw[hkl] at h
     exact⟨⟨by have:=h.own;simpa using this,h.rows,h.apart⟩,by rw[h.vals,List.take_length]⟩)
    have HNW:=Lib.hid hT.out.new;clear hE hT hk hkl
    go_wp2
    go_ret2;exact⟨hB,.inl ⟨HR.out,_,R,rfl,Nat.le_refl _,HNW.out,HN.out ▸ HMX.out.1,HMX.out.2⟩⟩
   | succ gh=>
    have hlt:k<M.length:=by omega
    have hlt':(k:Int)<(M.length:Int):=by omega
    obtain⟨r,hr⟩:∃r,M[k]? =some r:=⟨M[k],List.getElem?_eq_getElem hlt⟩
    obtain⟨r0,hr0⟩:∃r,M[0]? =some r:=⟨M[0]'(by omega),List.getElem?_eq_getElem _⟩
    have hn0:r0.length=n:=by rw[HN.out,hr0];rfl
    obtain⟨u,hu,hus⟩:=HROW.out k r hr;obtain⟨u0,hu0,hus0⟩:=HROW.out 0 r0 hr0;obtain⟨b0,off,hA,hbb,hcell⟩:=hs.at_ (k:=k) (by omega);have hc1':=(hB.cell (p:=⟨b0,off+k,none⟩) hbb).trans ((hcell k (by omega)).trans hu);have hc0':=(hB.cell (p:=⟨b0,off,none⟩) hbb).trans ((hcell 0 (by omega)).trans hu0);obtain⟨A1,k1,rfl,hk1,hk2⟩:=hus.form;obtain⟨A0,k0,rfl,hk3,hk4⟩:=hus0.form;simp only[kx] at hk1 hk3 hus hc1' hc0';rw[hn0] at hc0';have HD:=Lib.hid (C8 n k M hr);have Hk:=Lib.hid hk;have Hr:=Lib.hid hr;have CV:=Lib.hid (fun (hl:r.length≤1000000) W (hw:Below w.heap.size w W)=>Si (.slice A1 r.length k1) r W (hus.below hw) hl);subst hA;clear hu hu0 hus hus0 hcell hr hr0 hn0 hk hc1 hs;by_cases h1:256<r.length
    ·have hr1:(256:Int)<(r.length:Int):=by omega
     have HR:Hid (kN M=5):=Lib.hid (by rw[HME.out,hE.out,HD.out,if_pos h1])
     go_wp2
     go_ret2;exact⟨hB,.inr ⟨by rw[HR.out];decide,by rw[HR.out];rfl⟩⟩
    ·have hr1:¬(256:Int)<(r.length:Int):=by omega
     by_cases h2:r.length=n
     ·subst h2
      have CV2:=Lib.hid (CV.out (by omega) wr hB);have hgl:=hT.out.own.lt
      have hck:=(hT.out.own.cell k).trans (show _=some jm by
       rw[List.getElem?_append_right (by rw[List.length_map,hT.out.len (by omega)];exact Nat.le_refl _),List.length_map,hT.out.len (by omega),Nat.sub_self,List.getElem?_replicate,if_pos (by omega)])
      have hfk:=hT.out.own.free k
      have hrn:r.length≤256:=by omega
      go_wp2_with fail
      refine CV2.out.mono ?_;rintro e w1 ⟨hB1,⟨hib,gn,rfl,hg,hO1⟩ | ⟨hib,rfl⟩⟩
      ·have hck1:=(hB1.cell (p:=⟨w.heap.size,k,none⟩) hgl).trans hck
       have hfk1:=(hB1.frozen (p:=⟨w.heap.size,k,none⟩) hgl).trans hfk;have HT2:=Lib.hid (hT.out.step Hr.out rfl (by omega) hB1 hg (Nat.le_trans hB.size hg) hO1);have HE2:Hid (yK r.length M=yK r.length (M.drop (k+1))):=Lib.hid (by rw[hE.out,HD.out,if_neg h1,if_neg (by simp),if_pos hib]);have HB2:=Lib.hid ((hB.trans (hB1.mono hB.size)).setCell (p:=⟨w.heap.size,k,none⟩) (Nat.le_refl _) (.slice (some ⟨gn,0,none⟩) r.length r.length));clear hT hE hck hfk hib hO1
       go_wp2
       go_roundg gh
       case rel=>exact⟨k+1,R++[(gn,r.length,r)],by go_num,by have:=Hk.out;omega,HE2,HT2,HB2.out⟩
       case measure=>omega
      ·have hck1:=(hB1.cell (p:=⟨w.heap.size,k,none⟩) hgl).trans hck
       have hfk1:=(hB1.frozen (p:=⟨w.heap.size,k,none⟩) hgl).trans hfk;have HR:Hid (kN M=3):=Lib.hid (by rw[HME.out,hE.out,HD.out,if_neg h1,if_neg (by simp),if_neg hib]);have HB2:=Lib.hid ((hB.trans (hB1.mono hB.size)).setCell (p:=⟨w.heap.size,k,none⟩) (Nat.le_refl _) jm);clear hT hE hck hfk hib
       go_wp2
       go_ret2;exact⟨HB2.out,.inr ⟨by rw[HR.out];decide,by rw[HR.out];rfl⟩⟩
     ·have hr2:((r.length:Int) != (n:Int))=true:=by simp;omega
      have HR:Hid (kN M=2):=Lib.hid (by rw[HME.out,hE.out,HD.out,if_neg h1,if_pos h2])
      go_wp2
      go_ret2;exact⟨hB,.inr ⟨by rw[HR.out];decide,by rw[HR.out];rfl⟩⟩
theorem PF.of_prime {p:Int} (h:yt p) (h2:p≤999999999):PF p:=by
 refine⟨h.1,by omega,fun b h0 h1=> ?_⟩;have hb:(Int.gcd b p:Int)∣b:=Int.gcd_dvd_left ..;have hp:(Int.gcd b p:Int)∣p:=Int.gcd_dvd_right ..;have hpos:0<Int.gcd b p:=Int.gcd_pos_of_ne_zero_left _ (by omega);have hle:(Int.gcd b p:Int)≤b:=Int.le_of_dvd h0 hb;rcases Nat.lt_or_ge (Int.gcd b p) 2 with hl | hl
 ·omega
 ·exact absurd (Int.emod_eq_zero_of_dvd hp) (h.2 _ (by omega) (by omega))
theorem Fo {T:Type} (R:List (jV T)) (k:Nat) (L L':List T):setRow (setRow R k L) k L'=setRow R k L':=by
 apply List.ext_getElem?;intro j;by_cases hj:k=j
 ·subst hj
  cases hr:R[k]? with
  | none=>simp[setRow,hr]
  | some r=>rw[qA (qA hr L),qA hr]
 ·rw[xA hj,xA hj,xA hj]
theorem DU (f:Int→Int) (L:List Int):kV f 0 L.length L=L.map f:=by
 unfold kV;apply List.ext_getElem?;intro j;rw[List.getElem?_mapIdx,List.getElem?_map];rcases Nat.lt_or_ge j L.length with h | h
 ·rw[List.getElem?_eq_getElem h];simp[h]
 ·rw[List.getElem?_eq_none h];rfl
def J8 (p:Int) (M:List (List Int)):List (List Int):=M.map fun r=>r.map (· %p)
def C6 (M:List (List Int)) (p:Int) (w:World) (e:Ending) (w':World):Prop:=
 Below w.heap.size w w'∧((kN M=0∧yt p∧p≤999999999 ∧ ∃(g:Nat) (R:List jR),e = .returned (.tuple #[.slice (some ⟨g,0,none⟩) M.length M.length,.int .i64 0])∧w.heap.size≤g∧(∀r∈R,w.heap.size≤r.1)∧ki w' g R ((M[0]?.map (·.length)).getD 0)∧R.map (·.2.2)=J8 p M) ∨
  (kN M=0 ∧ ¬(yt p∧p≤999999999)∧e = .returned (.tuple #[jm,.int .i64 15]))∨(kN M≠0∧e = .returned (.tuple #[jm,.int .i64 (kN M)])))
structure zM (p:Int) (n g:Nat) (R:List jR) (w wr:World) (Q:List jR):Prop where
 mx:ki wr g Q n
 new:∀r∈R,w.heap.size≤r.1
 blocks:Q.map (·.1)=R.map (·.1)
 below:Below w.heap.size w wr
theorem zM.newQ {p:Int} {n g:Nat} {R Q:List jR} {w wr:World} (h:zM p n g R w wr Q) {r:jR} (hr:r∈Q):w.heap.size≤r.1:=by
 have:r.1∈R.map (·.1):=by rw[←h.blocks];exact List.mem_map_of_mem hr
 obtain⟨q,hq,e⟩:=List.mem_map.1 this;rw[←e];exact h.new q hq
theorem zM.put {p:Int} {n g:Nat} {R Q:List jR} {w wr:World} (h:zM p n g R w wr Q) {k j:Nat} {r:jR} (hr:Q[k]? =some r) (x:Int):
  zM p n g R w (wr.setCell ⟨r.1,j,none⟩ (.int .i64 x)) (setRow Q k (r.2.2.set j x)):=by
 have hm:=h.mx.row r (List.mem_of_getElem? hr);refine⟨h.mx.setRow hr (by rw[←xK];exact hm.1.put j _) (by rw[List.length_set];exact hm.2.1) ((jh.refl r.1 wr).setCell ⟨r.1,j,none⟩ rfl _),h.new,by rw[JD];exact h.blocks,h.below.setCell (h.newQ (List.mem_of_getElem? hr)) _⟩
theorem DY (f:Int→Int) (L:List Int) (j:Nat) (h:j<L.length):(kV f 0 j L).set j (f (L[j]?.getD 0))=kV f 0 (j+1) L:=by
 have:=YZ f 0 j L (by omega);simpa using this
theorem BV (v:Value) (M:List (List Int)) (p:Int) (w:World) (hv:yW w v M):
  Calls Tryz.prog 162 #[v,.int .i64 p] w (C6 M p w):=by
 have RR:=Lib.hid (BZ v M w hv);have PR:=Lib.hid (fun W=>M0 p W);clear hv;go_enter Tryz.func162,Tryz.ntmps162
 go_wp2_with fail
 refine RR.out.mono ?_;clear RR;rintro e w1 ⟨hB1,⟨hM,g,R,rfl,hg,hnew,hmx,hvals⟩ | ⟨hM,rfl⟩⟩
 ·have HM:=Lib.hid hM
  have HB1:=Lib.hid hB1;have HNew:=Lib.hid hnew;have HMX:=Lib.hid hmx;have HV:=Lib.hid hvals;have HRl:Hid (R.length=M.length):=Lib.hid (by rw[←hvals,List.length_map])
  have hM0:M.length≤256:=by
   unfold kN at hM;split at hM
   ·cases hM
   ·omega
  clear hM hB1 hnew hmx hvals;by_cases hr:0≤p∧p≤999999999
  ·have PR2:Hid (Calls Tryz.prog 42 #[.int .i64 p] w1 fun e w'=>(∃b:Bool,e = .returned (.tuple #[.bool b,.int .i64 0])∧(b=true↔yt p))∧w1=w'):=Lib.hid ((PR.out w1).mono fun e w' h=>by unfold Zl at h;rw[if_pos hr] at h;exact h)
   by_cases hp:yt p
   ·have HP:=Lib.hid hp
    have HPF:=Lib.hid (PF.of_prime hp hr.2)
    have hp1:1≤p:=by have:=hp.1;omega
    have hp2:=hr.2;clear PR hp hr
    go_wp2_with fail
    refine PR2.out.mono ?_;rintro e w2 ⟨⟨b,rfl,hb⟩,rfl⟩;have hbt:=hb.2 HP.out;subst hbt;clear hb PR2;generalize hne:(M[0]?.map (·.length)).getD 0=n at *;have HN:=Lib.hid hne;clear hne
    go_wp2_with fail
    go_loopg [35] M.length (fun gh i wr=>∃k:Nat,i = .int .i64 k∧k+gh=M.length∧Hid (zM p n g R w wr (kj (·.map (· %p)) R k)))
    case atStart=>exact⟨0,rfl,by omega,Lib.hid ⟨by rw[Xi];exact HMX.out,HNew.out,by rw[Xi],HB1.out⟩⟩
    case round=>
     obtain⟨k,rfl,hk,hT⟩:=hrel
     cases gk with
     | zero=>
      have hin:¬((k:Int)<(M.length:Int)):=by omega
      have hkR:k=R.length:=by have:=HRl.out;omega
      go_wp2
      go_ret2;have h:=hT.out;rw[hkR] at h;refine⟨h.below,.inl ⟨HM.out,HP.out,hp2,g,_,rfl,hg,fun r hr=>h.newQ hr,HN.out ▸ h.mx,?_⟩⟩;rw[Y0,List.map_map,←HV.out];unfold J8;rw[List.map_map];rfl
     | succ gh=>
      have hlt:k<M.length:=by omega
      have hlt':(k:Int)<(M.length:Int):=by omega
      obtain⟨r,hr⟩:∃r,R[k]? =some r:=⟨R[k]'(by rw[HRl.out];exact hlt),List.getElem?_eq_getElem _⟩
      have hr':=(Xh (f:=(·.map (· %p))) (R:=R) k).trans hr;have hck:=hT.out.mx.cellRow hr';have hgl:=hT.out.mx.own.lt;obtain⟨_,hrl,hrc1,hrc2⟩:=hT.out.mx.row _ (List.mem_of_getElem? hr');have HT0:Hid (zM p n g R w wr (setRow (kj (·.map (· %p)) R k) k (kV (· %p) 0 0 r.2.2))):=Lib.hid (by rw[VT,GK hr'];exact hT.out);have Hst:Hid (setRow (kj (·.map (· %p)) R k) k (kV (· %p) 0 n r.2.2)=kj (·.map (· %p)) R (k+1)):=Lib.hid (by rw[←hrl,DU];exact Y1 (f:=(·.map (· %p))) hr);have Hr:=Lib.hid hr';have Hk:=Lib.hid hk;have Hrl:=Lib.hid hrl;clear hr hr' hT hk hrl;obtain⟨kb,kc,kl⟩:=r;unfold qz at hck;dsimp only at hck hrc1 hrc2
      go_wp2_with fail
      go_loopg [41] n (fun gh2 ix wx=>∃j:Nat,ix = .int .i64 j∧j+gh2=n∧Hid (zM p n g R w wx (setRow (kj (·.map (· %p)) R k) k (kV (· %p) 0 j kl))))
      case atStart=>exact⟨0,rfl,by omega,HT0⟩
      case round=>
       clear HT0 hck hgl;obtain⟨j,rfl,hj,hTx⟩:=hrel
       cases gk with
       | zero=>
        have hin2:¬((j:Int)<(n:Int)):=by omega
        have hjn:j=n:=by omega
        have HQ:=Lib.hid hTx.out;rw[hjn,Hst.out] at HQ;clear hjn hTx hj
        go_wp2
        go_roundg gh
        case rel=>exact⟨k+1,by go_num,by have:=Hk.out;omega,HQ⟩
        case measure=>omega
       | succ gh2=>
        have hjl:j<n:=by omega
        have hjl':(j:Int)<(n:Int):=by omega
        have hrow:=qA Hr.out (kV (· %p) 0 j kl);have c1:=hTx.out.mx.cellNum hrow hjl;have f1:=(hTx.out.mx.row _ (List.mem_of_getElem? hrow)).1.free j;have hbl:=(hTx.out.mx.row _ (List.mem_of_getElem? hrow)).1.lt
        have hat:(kV (· %p) 0 j kl)[j]? =kl[j]? :=by have:=YW (· %p) 0 j kl;simpa using this
        have Hs:=Lib.hid (DY (· %p) kl j (by have:=Hrl.out;omega));dsimp only at c1 f1 hbl;rw[hat] at c1;have HP2:=Lib.hid (hTx.out.put (j:=j) hrow (kl[j]?.getD 0%p));rw[Fo] at HP2;dsimp only at HP2;rw[Hs.out] at HP2;have Hj:=Lib.hid hj;clear hrow hat Hs hTx hj;generalize kl[j]?.getD 0=x at *
        go_wp2_with (go_at_call 190;refine(Qi _ _ _ hp1 (by omega)).mono ?_;rintro e w' ⟨rfl,rfl⟩)
        go_roundg gh2
        case rel=>exact⟨j+1,by go_num,by have:=Hj.out;omega,HP2⟩
        case measure=>omega
   ·have HP:=Lib.hid hp
    clear PR hp hr
    go_wp2_with fail
    refine PR2.out.mono ?_;rintro e w2 ⟨⟨b,rfl,hb⟩,rfl⟩
    have hbt:b=false:=by
     cases b with
     | false=>rfl
     | true=>exact absurd (hb.1 rfl) HP.out
    subst hbt;clear hb PR2
    go_wp2
    go_ret2;exact⟨HB1.out,.inr (.inl ⟨HM.out,fun h=>HP.out h.1,rfl⟩)⟩
  ·have PR2:Hid (Calls Tryz.prog 42 #[.int .i64 p] w1 fun e w'=>e = .returned (.tuple #[.bool false,.int .i64 3])∧w1=w'):=Lib.hid ((PR.out w1).mono fun e w' h=>by unfold Zl at h;rw[if_neg hr] at h;exact h)
   have HR:=Lib.hid hr;clear PR hr
   go_wp2_with fail
   refine PR2.out.mono ?_;rintro e w2 ⟨rfl,rfl⟩;clear PR2
   go_wp2
   go_ret2;exact⟨HB1.out,.inr (.inl ⟨HM.out,fun h=>HR.out ⟨by have:=h.1.1;omega,h.2⟩,rfl⟩)⟩
 ·have HM:=Lib.hid hM
  have HB1:=Lib.hid hB1
  have hb:(kN M != 0)=true:=by simpa using hM
  clear hM hB1
  obtain⟨E,hE⟩:∃E,E=kN M:=⟨_,rfl⟩
  have HE:=Lib.hid hE;rw[←hE] at hb ⊢;clear hE PR
  go_wp2
  go_ret2;exact⟨HB1.out,.inr (.inr ⟨HM.out,by rw[HE.out];rfl⟩)⟩
