/- Contract of the reference: Determinant. -/
import Derived.Test.YtneafcdfnhnpnaaGreatDoorZD45
set_option maxRecDepth 100000
set_option maxHeartbeats 30000000
namespace Go.Proofs.YtneafcdfnhnpnaaGreatDoor
open Go.RowKit Go.Lib
theorem WM:(Value.string ⟨#[49]⟩)=xz 1:=by
 unfold xz
 have:jg 1=[49]:=by
  unfold jg;rw[if_neg (by decide),if_pos (by decide),List.nil_append,List.append_nil];exact decDigits_one (by decide)
 rw[this]
theorem TO {B K s L:Nat} (hB:2≤B) (hs:s+1≤K) (hl:B^5^K<L):(B^5^s)^5<L:=by
 refine Nat.lt_of_le_of_lt ?_ hl;rw[←Nat.pow_mul,←Nat.pow_succ];exact yg hB (Nat.pow_le_pow_right (by decide) hs)
theorem TL {X L e:Nat} (hX:2≤X) (he:e≤5) (hl:X^5<L):X^e<L:=Nat.lt_of_le_of_lt (yg hX he) hl
theorem TT {B s:Nat} (hB:2≤B):2≤B^5^s:=Nat.le_trans hB (by have:=yg hB (show 1≤5^s from Nat.one_le_pow _ _ (by decide));rwa [Nat.pow_one] at this)
theorem Fp {R:List jr} {i:Nat} {r:jr} (h:R[i]? =some r) (L L':List Rat):setRow (setRow R i L) i L'=setRow R i L':=by
 unfold setRow;apply List.ext_getElem?;intro j;rw[List.getElem?_modify,List.getElem?_modify,List.getElem?_modify];by_cases hj:i=j
 ·subst hj;rw[h];simp
 ·simp[hj]
def KI (n:Nat) (M:List (List Rat)) (w:World) (e:Ending) (w':World):Prop:=Below w.heap.size w w'∧e = .returned (.string ⟨(jg (qx n M)).toArray⟩)∧JN (qx n M)
theorem TK {B n g cg:Nat} {R Q:List jr} {w w1 wr:World} {S:jz Rat} {M:List (List Rat)} {K:Nat} {D:Rat} (h:xm B n g cg R w1 wr S Q n) (hR:R.map (·.2.2)=M) (hB:2≤B) (hK:n≤K) (hl:B^5^K<B9^jS) (hD:D=jQ S n) (hw:Below w.heap.size w wr):
  KI n M w (.returned (.string ⟨(jg D).toArray⟩)) wr:=by
 have hg:=h.go;rw[Nat.sub_self] at hg
 have hS:S=jH jd n R.length 0 ⟨R,[],[],false⟩:=by rw[h.rn];exact hg
 have hs:=J2 (F:=jd) (R:=R) (M:=M) hR n;rw[←hS] at hs
 have hMl:M.length=n:=by rw[←hR,List.length_map,h.rn]
 have e:qx n M=jQ S n:=by
  unfold qx;rw[←hs.piv,h.pl,hMl,if_neg (by omega),Yu hs]
 refine⟨hw,by rw[e,hD],?_⟩;rw[e];exact(h.bf.bigH (Nat.lt_of_le_of_lt (yg hB (Nat.pow_le_pow_right (by decide) hK)) hl)).bigD
theorem TS {B n g cg c:Nat} {R Q:List jr} {w w1 wr:World} {S:jz Rat} {M:List (List Rat)} (h:xm B n g cg R w1 wr S Q c) (hc:c<n) (h0:∀i,c≤i→i<n→kD Q i c=0) (hR:R.map (·.2.2)=M) (hw:Below w.heap.size w wr):
  KI n M w (.returned (.string ⟨#[48]⟩)) wr:=by
 have hn:=h.none hc h0;have hs:=J2 (F:=jd) (R:=R) (M:=M) hR n;rw[h.rn] at hs
 have hMl:M.length=n:=by rw[←hR,List.length_map,h.rn]
 have e:qx n M=0:=by
  unfold qx;rw[←hs.piv,hMl,if_pos hn]
 refine⟨hw,by rw[e,GG],?_⟩;rw[e]
 exact(Bq.zero (B:=2) (Nat.le_refl _) |>.bigH (by
  have:B9^1≤B9^jS:=Nat.pow_le_pow_right (by decide) (by unfold jS;decide);rw[Nat.pow_one] at this
  exact Nat.lt_of_lt_of_le (by decide) this)).bigD
theorem TN {w wr:World} (hw:Below w.heap.size w wr):KI 0 [] w (.returned (.string ⟨#[49]⟩)) wr:=by
 have e:qx 0 []=1:=by
  unfold qx;have h:(ko jd 0 ([]:List (List Rat))).piv=[]:=rfl;have h2:(ko jd 0 ([]:List (List Rat))).odd=false:=rfl;rw[if_neg (by rw[h];decide)];unfold jQ;rw[h,h2];rfl
 have h1:=WM;unfold xz at h1;refine⟨hw,by rw[e,h1],?_⟩;rw[e]
 exact(show Bq 2 1 from ⟨by decide,by decide⟩).bigH (by
  have:B9^1≤B9^jS:=Nat.pow_le_pow_right (by decide) (by unfold jS;decide);rw[Nat.pow_one] at this
  exact Nat.lt_of_lt_of_le (by decide) this) |>.bigD
set_option linter.unusedSimpArgs false in
theorem CE (B K:Nat) (v:Value) (M:List (List Rat)) (n:Nat) (w:World) (hv:X0 w v M) (hm:M.length=n) (hn:n≤256) (hr:∀r∈M,r.length=n)
  (hB:2≤B) (hbd:∀r∈M,∀x∈r,Bq B x) (hK:n≤K) (hlim:B^5^K<B9^jS):
  Calls Tryz.prog 84 #[v] w (KI n M w):=by
 have HBD:=hid hbd;have HLM:=hid hlim;have HB2:=hid hB;have HR0:=hid hr;have CL:=hid (CA v M n w hv (by omega) hn hr);obtain⟨vs,hvs,hvl,hvr⟩:=hv;obtain⟨A,c,rfl,hc1,hc2⟩:=hvs.form;have HM:=hid hm;rw[hvl] at CL hc1 ⊢;clear hvs hvr hr hbd hlim hB hvl;by_cases hz:M.length=0
 ·have hn0:n=0:=by omega
  have hM0:M=[]:=List.length_eq_zero_iff.1 hz;subst hM0 hn0;clear hz hm;go_enter Tryz.func84,Tryz.ntmps84
  go_wp2_with fail
  refine(CL.out).mono ?_;rintro e wr ⟨u,us,rfl,hT,hW⟩;have HE:=hid (TN hW);obtain⟨A6,k6,rfl,_,_⟩:=j7 hT.own;clear hT hW CL
  go_wp2_with fail
  go_loopg [3,4] 0 (fun gh ov ci wx=>ov = .string ⟨#[49]⟩∧ci = .int .i64 0∧wr=wx)
  case atStart=>exact⟨rfl,rfl,rfl⟩
  case round=>
   obtain⟨rfl,rfl,rfl⟩:=hrel
   go_wp2
   go_ret;exact HE.out
 ·have hn1:0<n:=by omega
  rw[hm] at CL hc1 ⊢;clear hc2
  have hc2:n≤140737488355328:=by omega
  have Hm0:Hid (0<M.length):=hid (by omega);clear hz hm;go_enter Tryz.func84,Tryz.ntmps84
  go_wp2_with fail
  refine(CL.out).mono ?_;rintro e wr ⟨u,us,rfl,hT,hW⟩;have HW:=hid hW;obtain⟨g,cg,R,rfl,hRv,hbg,hbk,hMX⟩:=hT.mx hn1 Hm0.out;rw[HM.out]
  have hRl:R.length=n:=by have:=congrArg List.length hRv;rw[List.length_map,HM.out] at this;exact this
  have HRV:=hid hRv;have HBK:=hid (And.intro hbg hbk)
  have HI0:Hid (xm B n g cg R wr wr ⟨R,[],[],false⟩ R 0):=hid ⟨⟨hMX,World.ownsRow_nil _ _ _ _,rfl,List.Perm.refl _,fun _ h=>hMX.lt h,jL.refl _ _⟩,rfl,rfl,Nat.zero_le _,hRl,
   ⟨hRl,fun i hi=>by
    have e:=List.getElem?_eq_getElem (l:=R) (i:=i) (by omega);rw[kW e]
    exact⟨hMX.len (List.getElem_mem _),fun _ _=>trivial⟩⟩,fun _ _ _=>rfl,rfl,fun i _ _ k hk=>by omega,fun r hr x hx=>by
    have:r.2.2∈M:=by rw[←hRv];exact List.mem_map_of_mem hr
    rw[Nat.pow_zero,Nat.pow_one]
    exact HBD.out _ this x hx,by rw[Nat.pow_zero,Nat.pow_one];exact⟨by show 1≤B;have:=HB2.out;omega,by show 1≤B;have:=HB2.out;omega⟩⟩
  have HQR:Hid (R.length=n):=hid hRl;have HD0:Hid ((Value.string ⟨#[49]⟩) = .string ⟨(jg (jQ (⟨R,[],[],false⟩:jz Rat) 0)).toArray⟩):=hid WM;have hcg:=hMX.own.2.1;have hcg2:=hMX.own.2.2.1;rw[hRl] at hcg;clear hT hRv hbg hbk hMX hRl hW CL
  go_wp2_with fail
  obtain⟨w1,rfl⟩:∃w1,w1=wr:=⟨_,rfl⟩
  go_loopg [3,4] n (fun gh ov ci wx=>∃(S:jz Rat) (Q:List jr) (k:Nat),ov = .string ⟨(jg (jQ S k)).toArray⟩∧ci = .int .i64 k∧k+gh=n∧Hid (xm B n g cg R w1 wx S Q k))
  case atStart=>exact⟨⟨R,[],[],false⟩,R,0,HD0.out,rfl,by omega,HI0⟩
  case round=>
   clear HI0 HD0;obtain⟨S,Q,k,rfl,rfl,hk,hI⟩:=hrel;have hgl:=hI.out.mid.mx.own.lt;have Hk:=hid hk
   have HBf:Hid (Below w.heap.size w wr):=hid (HW.out.trans (by
    have hb:=hI.out.mid.buts
    exact⟨hb.os,hb.tape,hb.output,hb.size,fun i hi=>hb.block i (Nat.lt_of_lt_of_le hi HW.out.size) (fun hm=>by
     rcases List.mem_cons.1 hm with rfl | hm
     ·have:=HBK.out.1;omega
     ·have:=HBK.out.2 _ hm;omega)⟩))
   by_cases hkn:k=n
   ·have hin1:¬((k:Int)<(n:Int)):=by omega
    have HF:=hid (TK (M:=M) (hkn ▸ hI.out) HRV.out HB2.out hK HLM.out (show jQ S k=jQ S n by rw[hkn]) HBf.out);clear hI hk hkn
    go_wp2
    go_ret;exact HF.out
   ·have hin1:((k:Int)<(n:Int)):=by omega
    have hkn':k<n:=by omega
    have HQl:=hid hI.out.ql;have HF0:=hid (fun h0=>TS (M:=M) hI.out hkn' h0 HRV.out HBf.out)
    cases gk with
    | zero=>exact absurd hk (by omega)
    | succ gh=>
     clear hk hkn
     go_wp2_with fail
     obtain⟨wb,rfl⟩:∃wb,wb=wr:=⟨_,rfl⟩
     go_loopg [5] (n-k) (fun gh2 at_ wx=>∃t:Nat,at_ = .int .i64 t∧k≤t∧t+gh2=n∧Hid (∀i,k≤i→i<t→kD Q i k=0)∧wb=wx)
     case atStart=>exact⟨k,rfl,Nat.le_refl _,by omega,hid (fun i h1 h2=>by omega),rfl⟩
     case round=>
      obtain⟨t,rfl,ht1,ht2,hZ,rfl⟩:=hrel;by_cases htm:t=n
      ·have htn:¬((t:Int)<(n:Int)):=by omega
       have htn2:decide ((t:Int)<(n:Int))=false:=by simpa using htn
       have hte:((t:Int)==(n:Int))=true:=by simp;omega
       have HF:=hid (HF0.out (fun i h1 h2=>hZ.out i h1 (by omega)));clear hZ hI htm ht2
       go_wp2
       go_ret;exact HF.out
      ·have htn:((t:Int)<(n:Int)):=by omega
       have htn2:decide ((t:Int)<(n:Int))=true:=by simpa using htn
       have htl:t<n:=by omega
       have hte:((t:Int)==(n:Int))=false:=by simp;omega
       obtain⟨rt,hrt⟩:∃r,Q[t]? =some r:=⟨Q[t]'(by rw[HQl.out];exact htl),List.getElem?_eq_getElem _⟩
       have hct:=hI.out.mid.mx.cellRow hrt;have hcx:=hI.out.mid.mx.cellNum hrt hkn';unfold jZ at hct;unfold xz at hcx;have Hx0:Hid (kD Q t k=rt.2.2[k]?.getD 0):=hid (Zb hrt);have IZ:=hid (M5 (rt.2.2[k]?.getD 0) wb);by_cases hx:rt.2.2[k]?.getD 0=0
       ·have hxb:decide (rt.2.2[k]?.getD 0=0)=true:=by simp[hx]
        have HZ:Hid (∀i,k≤i→i<t+1→kD Q i k=0):=hid (fun i h1 h2=>by
         rcases Nat.lt_or_ge i t with h3 | h3
         ·exact hZ.out i h1 h3
         ·have:i=t:=by omega
          rw[this,Hx0.out,hx])
        cases gk with
        | zero=>exact absurd ht2 (by omega)
        | succ gh2=>
         have Ht2:=hid ht2;clear hrt hZ Hx0 hx ht2 htm hI;generalize rt.2.2[k]?.getD 0=x at *
         go_wp2_with fail
         refine(IZ.out).mono ?_;rintro e w6 ⟨rfl,rfl⟩;rw[hxb]
         go_wp2
         go_roundg gh2
         case rel=>exact⟨t+1,by go_num,by omega,by have:=Ht2.out;omega,HZ,rfl⟩
         case measure=>omega
       ·have hxb:decide (rt.2.2[k]?.getD 0=0)=false:=by simp[hx]
        have HdQ:Hid (kD Q t k≠0):=hid (by rw[Hx0.out];exact hx)
        obtain⟨rq,hrq⟩:∃r,Q[k]? =some r:=⟨Q[k]'(by rw[HQl.out];exact hkn'),List.getElem?_eq_getElem _⟩
        have hcq:=hI.out.mid.mx.cellRow hrq;have hft:=hI.out.mid.mx.own.free t;have hfq:=hI.out.mid.mx.own.free k;have HE2:=hid (hI.out.mid.swap hrt hrq)
        have HSame:Hid (t=k→qu n g cg R w1 wb [] (j9 Q t k) jm):=hid (fun e=>by
         rw[e,G6 (by rw[HQl.out];exact hkn')];exact hI.out.mid)
        have Hrow:=hid (Qm hrt hrq);have HBs:Hid (2≤B^5^k):=hid (TT HB2.out);have HLs:Hid ((B^5^k)^5<B9^jS):=hid (TO HB2.out (show k+1≤K by omega) HLM.out);have HDb:Hid (Bq (B^5^k) (jQ S k)):=hid hI.out.bf
        have HQb:Hid (∀i r,k≤i→i<n→(j9 Q t k)[i]? =some r→r.2.2.length=n ∧ ∀x∈r.2.2,Bq (B^5^k) x):=hid (fun i r h1 h2 hr=>by
         have hql:=HQl.out
         have hrr:r.2.2=jG S.rows (sw k t i):=by
          have hs1:k≤sw k t i:=by unfold sw;split;exact ht1;split <;> omega
          have hs2:sw k t i<n:=by unfold sw;split;exact htl;split <;> omega
          rw[←hI.out.same _ hs1 hs2,←Xx (by omega) (by omega),kW hr]
         have hs2:sw k t i<S.rows.length:=by rw[hI.out.sl];unfold sw;split;exact htl;split <;> omega
         rw[kW (List.getElem?_eq_getElem hs2)] at hrr;refine⟨?_,fun x hx=>hI.out.bd _ (List.getElem_mem hs2) x (by rw[←hrr];exact hx)⟩;have:=(hI.out.good.2 (sw k t i) (by rw[←hI.out.sl];exact hs2)).1;rw[kW (List.getElem?_eq_getElem hs2)] at this
         rw[hrr];exact this)
        have HStep:=hid (fun (wf:World) (P:List Rat) (hP:P=jG (j9 Q t k) k) (hm:qu n g cg R w1 wf [] (qJ k (kD Q t k) P (j9 Q t k) n) jm)=>hI.out.step HB2.out ht1 htl HdQ.out hZ.out hP hm);rw[Hx0.out] at HStep;unfold jZ at hcq HE2
        obtain⟨z2,hz2⟩:∃z,(wb.setCell ⟨g,t,none⟩ (.slice (some ⟨rq.1,0,none⟩) n rq.2.1)).cell? ⟨g,k,none⟩=some z:=by
         rw[(hI.out.mid.mx.own.put t (.slice (some ⟨rq.1,0,none⟩) n rq.2.1)).cell (by rw[HQl.out];exact hkn')];exact⟨_,List.getElem?_eq_getElem (by rw[List.length_set,List.length_map,HQl.out];exact hkn')⟩
        clear hrt hrq ht2 htm;obtain⟨ib,ic,il⟩:=rt;obtain⟨tb,tc,tl⟩:=rq;dsimp only at hct hcx hcq HE2 hz2 hx hxb Hx0 IZ Hrow HStep;have Hne:=hid hx;have HPr:Hid (il=jG (j9 Q t k) k):=hid (by rw[kW Hrow.out]);obtain⟨hil,hib⟩:=HQb.out k _ (Nat.le_refl _) hkn' Hrow.out;dsimp only at hil hib;have Hil:=hid hil;have HIn:=hid hib;have HDq:Hid (Bq (B^5^k) (il[k]?.getD 0)):=hid (Bq.at HBs.out hib k);generalize B^5^k=X at *;have BX:Hid (∀e x,e≤5→Bq (X^e) x→qi x):=hid (fun e x he h=>h.bigH (TL HBs.out he HLs.out));have ND:=hid (fun W=>Z9 (jQ S k) W (BX.out 1 _ (by decide) (by rw[Nat.pow_one];exact HDb.out)).bigD)
        have HDb1:Hid (Bq X (if t=k then jQ S k else -(jQ S k))):=hid (by
         split
         ·exact HDb.out
         ·exact HDb.out.neg)
        generalize hde:il[k]?.getD 0=d at *;have Hde:=hid hde;generalize hSr:j9 Q t k=Q1 at *;clear hde hSr hx Hx0 hI hil hib HBf
        go_wp2_with fail
        refine(IZ.out).mono ?_;rintro e w6 ⟨rfl,rfl⟩;rw[hxb];clear IZ hxb
        go_upto_if 40 with fail
        go_cut [3] (fun s3 wx=>s3 = .string ⟨(jg (if t=k then jQ S k else -(jQ S k))).toArray⟩∧Hid (qu n g cg R w1 wx [] Q1 jm))
        case first=>
         by_cases htk:t=k
         ·have hb:((t:Int) != (k:Int))=false:=by simp[htk]
          have HF:=hid (HSame.out htk);have HD:Hid ((if t=k then jQ S k else -(jQ S k))=jQ S k):=hid (if_pos htk);clear htk
          go_wp2
          go_meet
          case rel=>exact⟨by rw[HD.out],HF⟩
         ·have hb:((t:Int) != (k:Int))=true:=by simp;omega
          have HD:Hid ((if t=k then jQ S k else -(jQ S k)) = -(jQ S k)):=hid (if_neg htk);clear htk
          go_upto_region 12 with fail
          go_region
          obtain⟨w2,hw2⟩:∃w2,w2=((wb.setCell ⟨g,t,none⟩ (.slice (some ⟨tb,0,none⟩) n tc)).setCell ⟨g,k,none⟩ (.slice (some ⟨ib,0,none⟩) n ic)).drew:=⟨_,rfl⟩
          rw[←hw2] at HE2;rw[←hw2];clear hw2 hz2 hct hcx hcq hft hfq
          go_wp2_with fail
          refine(ND.out _).mono ?_;rintro e w3 ⟨rfl,hB3⟩;have HF:=hid (HE2.out.below hB3);clear HE2 hB3
          go_wp2
          go_meet
          case rel=>exact⟨by rw[HD.out],HF⟩
        case rest=>
         clear HE2 HSame hz2 hct hcx hcq hft hfq hgl ND htn htn2 hte;obtain⟨rfl,HE3⟩:=hcut
         obtain⟨D1,hD1⟩:∃D1,D1=(if t=k then jQ S k else -(jQ S k)):=⟨_,rfl⟩
         have HD1:=hid hD1;rw[←hD1] at HDb1 ⊢;clear hD1;have hcr:=HE3.out.mx.cellRow Hrow.out;have hcd:=HE3.out.mx.cellNum Hrow.out hkn';unfold jZ at hcr;unfold xz at hcd;dsimp only at hcr hcd;rw[Hde.out] at hcd;have ML0:=hid (fun W=>XU D1 d W (BX.out 1 _ (by decide) (by rw[Nat.pow_one];exact HDb1.out)) (BX.out 1 _ (by decide) (by rw[Nat.pow_one];exact HDq.out)))
         go_wp2_with fail
         refine(ML0.out _).mono ?_;rintro e w4 ⟨rfl,hB4⟩;have HE4:=hid (HE3.out.below hB4);clear HE3 hB4 hcr hcd ML0
         go_wp2_with fail
         go_loopg [6] (n-(k+1)) (fun gh3 ii wx=>∃i:Nat,ii = .int .i64 i∧k<i∧i+gh3=n∧Hid (qu n g cg R w1 wx [] (qJ k d il Q1 i) jm))
         case atStart=>exact⟨k+1,by go_num,by omega,by omega,hid (by rw[SX];exact HE4.out)⟩
         case round=>
          clear HE4;obtain⟨i,rfl,hki,hi,hE⟩:=hrel;have Hi:=hid hi
          cases gk with
          | zero=>
           have him:¬((i:Int)<(n:Int)):=by omega
           have hin':i=n:=by omega
           have HE6:Hid (qu n g cg R w1 wr [] (qJ k d il Q1 n) jm):=hid (by have h:=hE.out;rwa [hin'] at h);have HF:=hid (HStep.out wr il HPr.out HE6.out);clear hE hi hin'
           go_wp2
           go_roundg gh
           case rel=>exact⟨jU jd t k S,qJ k d il Q1 n,k+1,by rw[HF.out.2,←HD1.out],by go_num,by have:=Hk.out;omega,hid HF.out.1⟩
           case measure=>omega
          | succ gh3=>
           have hil:i<n:=by omega
           have hil':((i:Int)<(n:Int)):=by omega
           have hQ1l:Q1.length=n:=by have:=hE.out.len;rw[SU] at this;have h2:=HQR.out;omega
           obtain⟨ri,hri⟩:∃r,Q1[i]? =some r:=⟨Q1[i]'(by omega),List.getElem?_eq_getElem _⟩
           have hri':=(US (c:=k) (d:=d) (P:=il) (Q:=Q1) (k:=i)).trans hri;have htop:=(SW (c:=k) (d:=d) (P:=il) (Q:=Q1) (k:=i)).trans Hrow.out;obtain⟨hkl,hkin⟩:=HQb.out i ri (by omega) hil hri;have Hsu:=hid (SY (d:=d) (P:=il) hki hri);have hci:=hE.out.mx.cellRow hri';have hcx:=hE.out.mx.cellNum hri' hkn';have hcr:=hE.out.mx.cellRow htop;have hcd:=hE.out.mx.cellNum htop hkn';have HR1:=hid hri';have HR2:=hid htop;have HKin:=hid hkin;have Hkl:=hid hkl;clear hri hri' htop hi hQ1l hkl hkin;obtain⟨kb,kc,kl⟩:=ri;unfold jZ at hci hcr;unfold xz at hcx hcd;dsimp only at hci hcx hcr hcd Hsu HKin Hkl;rw[Hde.out] at hcd;have HZq:Hid (Bq X (kl[k]?.getD 0)):=hid (Bq.at HBs.out HKin.out k);generalize kl[k]?.getD 0=z at *;have DV:=hid (fun W=>MW z d W (BX.out 1 _ (by decide) (by rw[Nat.pow_one];exact HZq.out)) (BX.out 1 _ (by decide) (by rw[Nat.pow_one];exact HDq.out)) Hne.out);have HTq:Hid (Bq (X*X) (z/d)):=hid (by rw[Rat.div_def];exact HZq.out.mul (HDq.out.inv Hne.out));generalize hte2:qJ k d il Q1 i=Q3 at *;clear hte2
           go_upto_region 18 with fail
           go_cut [7] (fun s7 wx=>s7 = .string ⟨(jg (z/d)).toArray⟩∧Hid (qu n g cg R w1 wx [] Q3 jm))
           case first=>
            have hgl2:=hE.out.mx.own.lt;have hb5:=(hE.out.mx.row _ (List.mem_of_getElem? HR1.out)).lt;have hb6:=(hE.out.mx.row _ (List.mem_of_getElem? HR2.out)).lt;dsimp only at hb5 hb6
            have KS:Hid (∀y,Below wr.heap.size wr y→y.cell? ⟨g,i,none⟩=some (.slice (some ⟨kb,0,none⟩) n kc)∧y.cell? ⟨kb,k,none⟩=some (.string ⟨(jg z).toArray⟩)∧y.cell? ⟨g,k,none⟩=some (.slice (some ⟨ib,0,none⟩) n ic)∧y.cell? ⟨ib,k,none⟩=some (.string ⟨(jg d).toArray⟩)∧Below wr.heap.size wr y):=hid (fun y hb=>
             ⟨(hb.cell (p:=⟨g,i,none⟩) hgl2).trans hci,(hb.cell (p:=⟨kb,k,none⟩) hb5).trans hcx,(hb.cell (p:=⟨g,k,none⟩) hgl2).trans hcr,(hb.cell (p:=⟨ib,k,none⟩) hb6).trans hcd,hb⟩)
            have KT:=hid (fun (a a':World) (hb:Below a.heap.size a a') (h5:Below wr.heap.size wr a)=>KS.out a' (h5.trans (hb.mono h5.size)));have HEB:=hid (fun W (hb:Below wr.heap.size wr W)=>hE.out.below hb);clear hE
            go_wp2
            go_region_held3 (fun y=>y.cell? ⟨g,i,none⟩=some (.slice (some ⟨kb,0,none⟩) n kc)∧y.cell? ⟨kb,k,none⟩=some (.string ⟨(jg z).toArray⟩)∧y.cell? ⟨g,k,none⟩=some (.slice (some ⟨ib,0,none⟩) n ic)∧y.cell? ⟨ib,k,none⟩=some (.string ⟨(jg d).toArray⟩)∧Below wr.heap.size wr y)
             (first | exact KS.out _ (Below.refl _ _).drew | exact KT.out _ _ (by assumption) (by assumption))
             (first | (go_at_call 31;go_split_ands;refine(DV.out _).mono ?_;rintro e5 w5 ⟨rfl,hB5⟩))
            all_goals
             have hBw:Below wr.heap.size wr w5:=by go_split_ands;assumption
             have HF:=hid (HEB.out w5 hBw);clear hBw
             go_wp2
             go_meet
             case rel=>exact⟨rfl,HF⟩
           case rest=>
            clear hE hci hcx hcr hcd DV;obtain⟨rfl,HE5⟩:=hcut;generalize z/d=q at *
            go_wp2_with fail
            go_loopg [8] (n-k) (fun gh4 ll wx=>∃l:Nat,ll = .int .i64 l∧k≤l∧l+gh4=n∧Hid (qu n g cg R w1 wx [] (setRow Q3 i (kS 0 (yL q) k (l-k) kl il)) jm))
            case atStart=>exact⟨k,rfl,Nat.le_refl _,by omega,hid (by rw[Nat.sub_self,MF,GK HR1.out];exact HE5.out)⟩
            case round=>
             clear HE5;obtain⟨l,rfl,hkl,hl,hE⟩:=hrel;have Hl:=hid hl
             cases gk with
             | zero=>
              have hln:¬((l:Int)<(n:Int)):=by omega
              have HE7:Hid (qu n g cg R w1 wr [] (qJ k d il Q1 (i+1)) jm):=hid (by
               have h:=hE.out
               have hln':l=n:=by omega
               rw[hln',LW Hkl.out (by omega)] at h
               rw[←Hsu.out];exact h)
              clear hE hl
              go_wp2
              go_roundg gh3
              case rel=>exact⟨i+1,by go_num,by omega,by have:=Hi.out;omega,HE7⟩
              case measure=>omega
             | succ gh4=>
              have hll:l<n:=by omega
              have hll':((l:Int)<(n:Int)):=by omega
              have hrow1:=qA HR1.out (kS 0 (yL q) k (l-k) kl il);have hrow2:=(xA (show i≠k by omega) (kS 0 (yL q) k (l-k) kl il)).trans HR2.out;have hci:=hE.out.mx.cellRow hrow1;have hcq:=hE.out.mx.cellRow hrow2;have hgl:=hE.out.mx.own.lt;have c1:=hE.out.mx.cellNum hrow1 hll;have c2:=hE.out.mx.cellNum hrow2 hll;have f1:=(hE.out.mx.row _ (List.mem_of_getElem? hrow1)).free l;have hbl:=(hE.out.mx.row _ (List.mem_of_getElem? hrow1)).lt;have hbl2:=(hE.out.mx.row _ (List.mem_of_getElem? hrow2)).lt;unfold jZ at hci hcq;unfold xz at c1 c2;dsimp only at hci hcq c1 c2 f1 hbl hbl2;rw[LX hkl] at c1;have Hs:=hid (LY (t:=q) hkl (L:=kl) (P:=il) (by rw[Hkl.out];exact hll));have hX2:2≤X*X:=Nat.le_trans HBs.out (Nat.le_mul_of_pos_left X (by have:=HBs.out;omega));have HXq:Hid (Bq X (kl[l]?.getD 0)):=hid (Bq.at HBs.out HKin.out l);have HPq:Hid (Bq X (il[l]?.getD 0)):=hid (Bq.at HBs.out HIn.out l);have ML:=hid (fun W=>XU q (il[l]?.getD 0) W (BX.out 2 _ (by decide) (by rw[Nat.pow_two];exact HTq.out)) (BX.out 1 _ (by decide) (by rw[Nat.pow_one];exact HPq.out)));have SB:=hid (fun W=>Ej (kl[l]?.getD 0) (q*(il[l]?.getD 0)) W (BX.out 1 _ (by decide) (by rw[Nat.pow_one];exact HXq.out)) (BX.out 3 _ (by decide) (by rw[Nat.pow_succ,Nat.pow_two];exact HTq.out.mul HPq.out)));have HP2:=hid (fun (W:World) (hb:Below wr.heap.size wr W)=>(hE.out.below hb).setNum (j:=l) hrow1 (kl[l]?.getD 0-q*(il[l]?.getD 0)));have HCW:=hid (fun (W:World) (hb:Below wr.heap.size wr W)=>((hE.out.below hb).mx.row _ (List.mem_of_getElem? hrow1)).free l);have HRq1:=hid HR1.out;clear hrow1 hrow2 hE hl hX2;generalize kl[l]?.getD 0=x at *;generalize il[l]?.getD 0=u at *
              (try clear HBD);(try clear HLM);(try clear HB2);(try clear HR0);(try clear HM);(try clear hc1);(try clear hc2);(try clear Hm0);(try clear HW);(try clear HRV);(try clear HBK);(try clear hcg2);(try clear Hk);(try clear HQl);(try clear HF0);(try clear hZ);(try clear ht1);(try clear htl);(try clear HdQ);(try clear Hrow);(try clear HBs);(try clear HLs);(try clear HDb);(try clear HDb1);(try clear HQb);(try clear HStep);(try clear Hne);(try clear HPr);(try clear Hil);(try clear HIn);(try clear HDq);(try clear BX);(try clear Hde);(try clear HD1);(try clear Hi);(try clear Hsu);(try clear HR1);(try clear HR2);(try clear HKin);(try clear Hkl);(try clear HZq);(try clear HTq);(try clear HXq);(try clear HPq);(try clear HK);(try clear HQR);(try clear hin1);(try clear hK);(try clear hil')
              have KS:Hid (∀y,Below wr.heap.size wr y→y.cell? ⟨g,i,none⟩=some (.slice (some ⟨kb,0,none⟩) n kc)∧y.cell? ⟨g,k,none⟩=some (.slice (some ⟨ib,0,none⟩) n ic)∧y.cell? ⟨kb,l,none⟩=some (.string ⟨(jg x).toArray⟩)∧y.cell? ⟨ib,l,none⟩=some (.string ⟨(jg u).toArray⟩)∧Below wr.heap.size wr y):=hid (fun y hb=>
               ⟨(hb.cell (p:=⟨g,i,none⟩) hgl).trans hci,(hb.cell (p:=⟨g,k,none⟩) hgl).trans hcq,(hb.cell (p:=⟨kb,l,none⟩) hbl).trans c1,(hb.cell (p:=⟨ib,l,none⟩) hbl2).trans c2,hb⟩)
              go_upto_region 22 with fail
              refine wp_region_noPanic ?_;refine CX (S:=fun y=>y.cell? ⟨g,i,none⟩=some (.slice (some ⟨kb,0,none⟩) n kc)∧y.cell? ⟨g,k,none⟩=some (.slice (some ⟨ib,0,none⟩) n ic)∧y.cell? ⟨kb,l,none⟩=some (.string ⟨(jg x).toArray⟩)∧y.cell? ⟨ib,l,none⟩=some (.string ⟨(jg u).toArray⟩)∧Below wr.heap.size wr y) (by kernel_rfl) (KS.out _ (Below.refl _ _).drew) (fun hHeld=> ?_);refine qw (i:=0) (v:= ?_) rfl (by kernel_rfl) (by kernel_rfl) (by kernel_rfl) (by kernel_rfl) (fun _ _ _ h=>h) (Or.inl ⟨by rfl,?_⟩) hHeld ?_
              rotate_left
              ·(intro y hSy;(try dsimp only at hSy);go_split_ands;go_simp;(try with_reducible rfl))
              (try simp only[Act.put,List.setIfInBounds_toArray,List.set_cons_zero,List.set_cons_succ])
              refine qw (i:=1) (v:= ?_) rfl (by kernel_rfl) (by kernel_rfl) (by kernel_rfl) (by kernel_rfl) (fun _ _ _ h=>h) (Or.inl ⟨by rfl,?_⟩) hHeld ?_
              rotate_left
              ·(intro y hSy;(try dsimp only at hSy);go_split_ands;go_simp;(try with_reducible rfl))
              (try simp only[Act.put,List.setIfInBounds_toArray,List.set_cons_zero,List.set_cons_succ])
              refine qw (i:=2) (v:= ?_) rfl (by kernel_rfl) (by kernel_rfl) (by kernel_rfl) (by kernel_rfl) (fun _ _ _ h=>h) (Or.inl ⟨by rfl,?_⟩) hHeld ?_
              rotate_left
              ·(intro y hSy;(try dsimp only at hSy);go_split_ands;go_simp;(try with_reducible rfl))
              (try simp only[Act.put,List.setIfInBounds_toArray,List.set_cons_zero,List.set_cons_succ])
              refine qw (i:=3) (v:= ?_) rfl (by kernel_rfl) (by kernel_rfl) (by kernel_rfl) (by kernel_rfl) (fun _ _ _ h=>h) (Or.inl ⟨by rfl,?_⟩) hHeld ?_
              rotate_left
              ·(intro y hSy;(try dsimp only at hSy);go_split_ands;go_simp;(try with_reducible rfl))
              (try simp only[Act.put,List.setIfInBounds_toArray,List.set_cons_zero,List.set_cons_succ])
              refine qw (i:=4) (v:= ?_) rfl (by kernel_rfl) (by kernel_rfl) (by kernel_rfl) (by kernel_rfl) (fun _ _ _ h=>h) (Or.inl ⟨by rfl,?_⟩) hHeld ?_
              rotate_left
              ·(intro y hSy;(try dsimp only at hSy);go_split_ands;go_simp;(try with_reducible rfl))
              (try simp only[Act.put,List.setIfInBounds_toArray,List.set_cons_zero,List.set_cons_succ])
              refine qw (i:=5) (v:= ?_) rfl (by kernel_rfl) (by kernel_rfl) (by kernel_rfl) (by kernel_rfl) (fun _ _ _ h=>h) (Or.inl ⟨by rfl,?_⟩) hHeld ?_
              rotate_left
              ·(intro y hSy;(try dsimp only at hSy);go_split_ands;go_simp;(try with_reducible rfl))
              (try simp only[Act.put,List.setIfInBounds_toArray,List.set_cons_zero,List.set_cons_succ])
              refine qw (i:=6) (v:= ?_) rfl (by kernel_rfl) (by kernel_rfl) (by kernel_rfl) (by kernel_rfl) (fun _ _ _ h=>h) (Or.inl ⟨by rfl,?_⟩) hHeld ?_
              rotate_left
              ·(intro y hSy;(try dsimp only at hSy);go_split_ands;go_simp;(try with_reducible rfl))
              (try simp only[Act.put,List.setIfInBounds_toArray,List.set_cons_zero,List.set_cons_succ])
              refine qw (i:=7) (v:= ?_) rfl (by kernel_rfl) (by kernel_rfl) (by kernel_rfl) (by kernel_rfl) (fun _ _ _ h=>h) (Or.inl ⟨by rfl,?_⟩) hHeld ?_
              rotate_left
              ·(intro y hSy;(try dsimp only at hSy);go_split_ands;go_simp;(try with_reducible rfl))
              (try simp only[Act.put,List.setIfInBounds_toArray,List.set_cons_zero,List.set_cons_succ])
              refine qw (i:=8) (v:= ?_) rfl (by kernel_rfl) (by kernel_rfl) (by kernel_rfl) (by kernel_rfl) (fun _ _ _ h=>h) (Or.inl ⟨by rfl,?_⟩) hHeld ?_
              rotate_left
              ·(intro y hSy;(try dsimp only at hSy);go_split_ands;go_simp;(try with_reducible rfl))
              (try simp only[Act.put,List.setIfInBounds_toArray,List.set_cons_zero,List.set_cons_succ])
              refine qw (i:=9) (v:= ?_) rfl (by kernel_rfl) (by kernel_rfl) (by kernel_rfl) (by kernel_rfl) (fun _ _ _ h=>h) (Or.inl ⟨by rfl,?_⟩) hHeld ?_
              rotate_left
              ·(intro y hSy;(try dsimp only at hSy);go_split_ands;go_simp;(try with_reducible rfl))
              (try simp only[Act.put,List.setIfInBounds_toArray,List.set_cons_zero,List.set_cons_succ])
              refine qw (i:=10) (v:= ?_) rfl (by kernel_rfl) (by kernel_rfl) (by kernel_rfl) (by kernel_rfl) (fun _ _ _ h=>h) (Or.inl ⟨by rfl,?_⟩) hHeld ?_
              rotate_left
              ·(intro y hSy;(try dsimp only at hSy);go_split_ands;go_simp;(try with_reducible rfl))
              (try simp only[Act.put,List.setIfInBounds_toArray,List.set_cons_zero,List.set_cons_succ])
              refine qw (i:=11) (v:= ?_) rfl (by kernel_rfl) (by kernel_rfl) (by kernel_rfl) (by kernel_rfl) (fun _ _ _ h=>h) (Or.inl ⟨by rfl,?_⟩) hHeld ?_
              rotate_left
              ·(intro y hSy;(try dsimp only at hSy);go_split_ands;go_simp;(try with_reducible rfl))
              (try simp only[Act.put,List.setIfInBounds_toArray,List.set_cons_zero,List.set_cons_succ])
              refine qw (i:=12) (v:= ?_) rfl (by kernel_rfl) (by kernel_rfl) (by kernel_rfl) (by kernel_rfl) (fun _ _ _ h=>h) (Or.inl ⟨by rfl,?_⟩) hHeld ?_
              rotate_left
              ·(intro y hSy;(try dsimp only at hSy);go_split_ands;go_simp;(try with_reducible rfl))
              (try simp only[Act.put,List.setIfInBounds_toArray,List.set_cons_zero,List.set_cons_succ])
              refine qw (i:=13) (v:= ?_) rfl (by kernel_rfl) (by kernel_rfl) (by kernel_rfl) (by kernel_rfl) (fun _ _ _ h=>h) (Or.inl ⟨by rfl,?_⟩) hHeld ?_
              rotate_left
              ·(intro y hSy;(try dsimp only at hSy);go_split_ands;go_simp;(try with_reducible rfl))
              (try simp only[Act.put,List.setIfInBounds_toArray,List.set_cons_zero,List.set_cons_succ])
              refine qw (i:=14) (v:= ?_) rfl (by kernel_rfl) (by kernel_rfl) (by kernel_rfl) (by kernel_rfl) (fun _ _ _ h=>h) (Or.inl ⟨by rfl,?_⟩) hHeld ?_
              rotate_left
              ·(intro y hSy;(try dsimp only at hSy);go_split_ands;go_simp;(try with_reducible rfl))
              (try simp only[Act.put,List.setIfInBounds_toArray,List.set_cons_zero,List.set_cons_succ])
              refine qw (i:=15) (v:= ?_) rfl (by kernel_rfl) (by kernel_rfl) (by kernel_rfl) (by kernel_rfl) (fun _ _ _ h=>h) (Or.inl ⟨by rfl,?_⟩) hHeld ?_
              rotate_left
              ·(intro y hSy;(try dsimp only at hSy);go_split_ands;go_simp;(try with_reducible rfl))
              (try simp only[Act.put,List.setIfInBounds_toArray,List.set_cons_zero,List.set_cons_succ])
              refine qw (i:=16) (v:= ?_) rfl (by kernel_rfl) (by kernel_rfl) (by kernel_rfl) (by kernel_rfl) (fun _ _ _ h=>h) (Or.inl ⟨by rfl,?_⟩) hHeld ?_
              rotate_left
              ·(intro y hSy;(try dsimp only at hSy);go_split_ands;go_simp;(try with_reducible rfl))
              (try simp only[Act.put,List.setIfInBounds_toArray,List.set_cons_zero,List.set_cons_succ])
              refine qw (i:=17) (v:= ?_) rfl (by kernel_rfl) (by kernel_rfl) (by kernel_rfl) (by kernel_rfl) (fun _ _ _ h=>h) (Or.inl ⟨by rfl,?_⟩) hHeld ?_
              rotate_left
              ·(intro y hSy;(try dsimp only at hSy);go_split_ands;go_simp;(try with_reducible rfl))
              (try simp only[Act.put,List.setIfInBounds_toArray,List.set_cons_zero,List.set_cons_succ])
              refine qw (i:=18) (v:= ?_) rfl (by kernel_rfl) (by kernel_rfl) (by kernel_rfl) (by kernel_rfl) (fun _ _ _ h=>h) (Or.inl ⟨by rfl,?_⟩) hHeld ?_
              rotate_left
              ·(intro y hSy;(try dsimp only at hSy);go_split_ands;go_simp;(try with_reducible rfl))
              (try simp only[Act.put,List.setIfInBounds_toArray,List.set_cons_zero,List.set_cons_succ])
              refine qw (i:=19) (v:= ?_) rfl (by kernel_rfl) (by kernel_rfl) (by kernel_rfl) (by kernel_rfl) (fun _ _ _ h=>h) (Or.inl ⟨by rfl,?_⟩) hHeld ?_
              rotate_left
              ·(intro y hSy;(try dsimp only at hSy);go_split_ands;go_simp;(try with_reducible rfl))
              (try simp only[Act.put,List.setIfInBounds_toArray,List.set_cons_zero,List.set_cons_succ])
              have hb0:=hHeld.2.2.2.2;refine Uo (i:=20) (by kernel_rfl) rfl (fun K hK=> ?_)
              go_simp
              refine(ML.out _).mono ?_;rintro e w5 ⟨rfl,hB5⟩;have hb5:=hb0.trans (hB5.mono hb0.size);refine hK.out _ _ (KS.out _ hb5) (fun hHeld5=> ?_);clear hK K hB5 hHeld
              (try simp only[Act.put,List.setIfInBounds_toArray,List.set_cons_zero,List.set_cons_succ])
              refine Uo (i:=21) (by kernel_rfl) rfl (fun K hK=> ?_)
              go_simp
              refine(SB.out _).mono ?_;rintro e w6 ⟨rfl,hB6⟩;have hb6:=hb5.trans (hB6.mono hb5.size);refine hK.out _ _ (KS.out _ hb6) (fun hHeld6=> ?_);clear hK K hB6 hHeld5
              (try simp only[Act.put,List.setIfInBounds_toArray,List.set_cons_zero,List.set_cons_succ])
              refine qw (i:=22) (v:= ?_) rfl (by kernel_rfl) (by kernel_rfl) (by kernel_rfl) (by kernel_rfl) (fun _ _ _ h=>h) (Or.inl ⟨by rfl,?_⟩) hHeld6 ?_
              rotate_left
              ·(intro y hSy;(try dsimp only at hSy);go_split_ands;go_simp;(try with_reducible rfl))
              (try simp only[Act.put,List.setIfInBounds_toArray,List.set_cons_zero,List.set_cons_succ])
              obtain⟨s0,s1,s2,s3,-⟩:=hHeld6;have ff:=HCW.out w6 hb6;refine EN (i:=23) (by kernel_rfl) rfl (by kernel_rfl) (by kernel_rfl) (fun K hK=> ?_)
              go_simp
              refine hK.out _ _ ?_;clear hK K;refine NoPanic.normal ?_
              (try simp only[Act.put,List.setIfInBounds_toArray,List.set_cons_zero,List.set_cons_succ])
              have hE6:=HP2.out w6 hb6;rw[Fp HRq1.out] at hE6;dsimp only at hE6;rw[Hs.out] at hE6;have HE6:=hid hE6;clear hE6 s0 s1 s2 s3 ff hb6 hb5 hb0 hci c1 f1 hcq c2 KS
              go_wp2
              go_roundg gh4
              case rel=>exact⟨l+1,by go_num,by omega,by have:=Hl.out;omega,HE6⟩
              case measure=>omega
