/- Contracts: lists of texts are read as rational numbers. -/
import Derived.Test.YtneafcdfnhnpnaaGreatDoorZD15
import Derived.Test.YtneafcdfnhnpnaaGreatDoorZD22
set_option maxRecDepth 100000
set_option maxHeartbeats 2000000
namespace Go.Proofs.YtneafcdfnhnpnaaGreatDoor
open Go.RowKit Go.Lib
abbrev jn:=List UInt8
def sv (l:jn):Value:= .string ⟨l.toArray⟩
def jO (L:List jn):List Value:=L.map sv
theorem qg (L:List jn):(jO L).length=L.length:=by simp[jO]
theorem JC (L:List jn) (k:Nat) (h:k<L.length):(jO L)[k]? =some (sv (L[k]?.getD [])):=by simp[jO,h]
def xq (l:jn):Prop:=l.length<4294967281∧qt l.length
def ku:List jn→Int
 | []=>0
 | l::r=>if (jY l).1=0 then ku r else (jY l).1
theorem Gq (k:Nat) (L:List jn) {l:jn} (h:L[k]? =some l):ku (L.drop k)=if (jY l).1=0 then ku (L.drop (k+1)) else (jY l).1:=by
 obtain⟨hk,rfl⟩:=List.getElem?_eq_some_iff.1 h;rw[List.drop_eq_getElem_cons hk];rfl
def ji (L:List jn):List Rat:=L.map fun l=>(jY l).2
theorem Fi (L:List jn) (k:Nat) {l:jn} (h:L[k]? =some l):ji (L.take (k+1))=ji (L.take k)++[(jY l).2]:=by
 unfold ji;rw[List.take_add_one,h,List.map_append];rfl
section
variable {w w':World} {b:Nat} {es:List El} {qs:List Rat}
theorem jp.raw (h:jp w b es qs) {j:Nat} (hj:j<es.length):∃x y z:Value,w.cell? ⟨b,j*3,none⟩=some x∧w.cell? ⟨b,j*3+1,none⟩=some y∧w.cell? ⟨b,j*3+2,none⟩=some z ∧
  w.frozen? ⟨b,j*3,none⟩=false∧w.frozen? ⟨b,j*3+1,none⟩=false∧w.frozen? ⟨b,j*3+2,none⟩=false:=by
 obtain⟨h1,h2,h3⟩:=QY es j _ (List.getElem?_eq_getElem hj);exact⟨_,_,_,(h.own.cell _).trans h1,(h.own.cell _).trans h2,(h.own.cell _).trans h3,h.own.free _,h.own.free _,h.own.free _⟩
theorem jp.push (h:jp w b es qs) {e:El} {q:Rat} (hj:qs.length<es.length) (hq:Rt w (k8 e) q):
  jp (((w.setCell ⟨b,qs.length*3,none⟩ (.bool e.1)).setCell ⟨b,qs.length*3+1,none⟩ e.2.1).setCell ⟨b,qs.length*3+2,none⟩ e.2.2) b (es.set qs.length e) (qs++[q]):=by
 have hb:=jh.set3 w b (qs.length*3) (.bool e.1) e.2.1 e.2.2;have hn:=h.noInt;refine⟨?_,by simp;omega,fun a ha=> ?_,fun i a r hi hr=> ?_⟩
 ·rw[←U3 es qs.length e hj]
  exact((h.own.put _ _).put _ _).put _ _
 ·rcases List.mem_or_eq_of_mem_set ha with ha | rfl
  ·exact h.noi a ha
  ·exact hq.elNo
 ·by_cases hij:i=qs.length
  ·subst hij
   rw[List.getElem?_set_self hj] at hi;rw[List.getElem?_append_right (Nat.le_refl _),Nat.sub_self] at hr;obtain rfl:=Option.some.inj hi;obtain rfl:=Option.some.inj hr;exact hq.stay h.own hn hb
  ·have hil:i<(qs++[q]).length:=(List.getElem?_eq_some_iff.1 hr).1
   rw[List.length_append,List.length_singleton] at hil;rw[List.getElem?_set_ne (fun e=>hij e.symm)] at hi;rw[List.getElem?_append_left (by omega)] at hr;exact(h.num i a r hi hr).stay h.own hn hb
end
def Sh (L:List jn) (w:World) (e:Ending) (w':World):Prop:=
 Below w.heap.size w w'∧((ku L=0 ∧ ∃g es,e = .returned (.tuple #[.slice (some ⟨g,0,none⟩) L.length L.length,.int .i64 0])∧w.heap.size≤g∧jp w' g es (ji L))∨(ku L≠0∧e = .returned (.tuple #[jm,.int .i64 (ku L)])))
theorem UJ (v:Value) (L:List jn) (w:World) (hv:jB w v (jO L)) (hl:L.length≤1000000) (hT:∀l∈L,xq l) (hG:jN w):
  Calls Tryz.prog 199 #[v,.func (.func 102) #[] #[]] w (Sh L w):=by
 obtain⟨A,c,rfl,hc1,hc2,hcell⟩:=hv;simp only[qg] at hc1 hcell ⊢;have hmk:=YU w ka L.length hl
 have HO:Hid (jp (w.alloc (.cells (kF ka L.length 0).toArray 122)) w.heap.size (List.replicate L.length ka) (ji (L.take 0))):=hid (by
  refine⟨?_,by simp[ji],fun e he=> ?_,fun i e q h1 h2=>by simp[ji] at h2⟩
  ·have:=ja.make w 122 (kF ka L.length 0)
   rw[show kF ka L.length 0=jw (List.replicate L.length ka) by simp[kF]] at this ⊢;exact this
  ·rw[List.eq_of_mem_replicate he];exact⟨jq _ _ _,jq _ _ _⟩)
 have HT:=hid hT;have HG:=hid hG;have HC:=hid hcell;clear hT hG hcell;go_enter Tryz.func199,Tryz.ntmps199
 go_wp2_with fail
 clear hmk
 go_loopg [15] L.length (fun gh i wr=>∃(k:Nat) (es:List El),i = .int .i64 k∧k+gh=L.length∧Hid (ku L=ku (L.drop k))∧Hid (jp wr w.heap.size es (ji (L.take k)))∧Hid (es.length=L.length)∧Hid (Below w.heap.size w wr))
 case atStart=>exact⟨0,_,rfl,by omega,hid rfl,HO,hid (by simp),hid ((Below.refl _ _).alloc (Nat.le_refl _) _)⟩
 case round=>
  clear HO;obtain⟨k,es,rfl,hk,hE,hO,hEl,hB⟩:=hrel
  cases gk with
  | zero=>
   have hkl:k=L.length:=by omega
   have hin:¬((k:Int)<(L.length:Int)):=by omega
   have HR:Hid (ku L=0):=hid (by rw[hE.out,hkl,List.drop_length];rfl);have HO:=hid (show jp wr w.heap.size es (ji L) by have:=hO.out;rwa [hkl,List.take_of_length_le (Nat.le_refl _)] at this);clear hkl hO hE hk
   go_wp2
   go_ret2;exact⟨hB.out,.inl ⟨HR.out,_,es,rfl,Nat.le_refl _,HO.out⟩⟩
  | succ gh=>
   have hlt:k<L.length:=by omega
   have hlt':(k:Int)<(L.length:Int):=by omega
   obtain⟨l,hl0⟩:∃l,L[k]? =some l:=⟨L[k],List.getElem?_eq_getElem hlt⟩
   obtain⟨b0,off,rfl,hbb,hcell⟩:=HC.out (by omega);have hck:=(hB.out.cell (p:=⟨b0,off+k,none⟩) hbb).trans ((hcell k hlt).trans (by rw[JC L k hlt,hl0];rfl:(jO L)[k]? =some (sv l)))
   have hql:(ji (L.take k)).length=k:=by simp[ji];omega
   have hkes:k<es.length:=by rw[hEl.out];exact hlt
   obtain⟨x0,x1,x2,c0,c1,c2,f0,f1,f2⟩:=hO.out.raw hkes;have hbl:=hO.out.own.lt;have HD:=hid (Gq k L hl0);have HV:=hid (Fi L k hl0);have Hk:=hid hk;have Hql:=hid hql;have hok:=HT.out l (List.mem_of_getElem? hl0);have RD:=hid (W7 l wr hok.1 (HG.out.below hB.out) hok.2);unfold sv at hck;clear hcell hl0 hk hql hok
   go_wp2_with fail
   refine RD.out.mono ?_;clear RD;rintro e w1 h;by_cases h1:(jY l).1=0
   ·obtain⟨qv,rfl,hq,hB1⟩:z7 (jY l).2 wr e w1:=by unfold zf at h;rw[if_pos h1] at h;exact h
    obtain⟨s,Q1,n1,d1,Q2,n2,d2,rfl⟩:=hq.shape;have c0':=(hB1.cell (p:=⟨w.heap.size,k*3,none⟩) hbl).trans c0;have c1':=(hB1.cell (p:=⟨w.heap.size,k*3+1,none⟩) hbl).trans c1;have c2':=(hB1.cell (p:=⟨w.heap.size,k*3+2,none⟩) hbl).trans c2;have f0':=(hB1.frozen (p:=⟨w.heap.size,k*3,none⟩) hbl).trans f0;have f1':=(hB1.frozen (p:=⟨w.heap.size,k*3+1,none⟩) hbl).trans f1;have f2':=(hB1.frozen (p:=⟨w.heap.size,k*3+2,none⟩) hbl).trans f2;have hbl1:w.heap.size<w1.heap.size:=Nat.lt_of_lt_of_le hbl hB1.size;have HE2:Hid (ku L=ku (L.drop (k+1))):=hid (by rw[hE.out,HD.out,if_pos h1])
    have HO2:Hid (jp (((w1.setCell ⟨w.heap.size,k*3,none⟩ (.bool s)).setCell ⟨w.heap.size,k*3+1,none⟩ (.slice Q1 n1 d1)).setCell ⟨w.heap.size,k*3+2,none⟩ (.slice Q2 n2 d2)) w.heap.size (es.set k (s,.slice Q1 n1 d1,.slice Q2 n2 d2)) (ji (L.take (k+1)))):=hid (by
     have:=(hO.out.below hB1).push (e:=(s,.slice Q1 n1 d1,.slice Q2 n2 d2)) (q:=(jY l).2) (by rw[Hql.out];exact hkes) hq;rw[Hql.out,←HV.out] at this
     exact this)
    have HB2:=hid ((((hB.out.trans (hB1.mono hB.out.size)).setCell (p:=⟨w.heap.size,k*3,none⟩) (Nat.le_refl _) (.bool s)).setCell (p:=⟨w.heap.size,k*3+1,none⟩) (Nat.le_refl _) (.slice Q1 n1 d1)).setCell (p:=⟨w.heap.size,k*3+2,none⟩) (Nat.le_refl _) (.slice Q2 n2 d2));have HL2:Hid ((es.set k (s,.slice Q1 n1 d1,.slice Q2 n2 d2)).length=L.length):=hid (by rw[List.length_set];exact hEl.out);generalize es.set k (s,.slice Q1 n1 d1,.slice Q2 n2 d2)=es2 at *;clear h h1 hq hB1 hO hE hB c0 c1 c2 f0 f1 f2 hkes HV HD
    go_wp2
    go_roundg gh
    case rel=>exact⟨k+1,es2,by go_num,by have:=Hk.out;omega,HE2,HO2,HL2,HB2⟩
    case measure=>omega
   ·obtain⟨rfl,hB1⟩:qa (jY l).1 wr e w1:=by unfold zf at h;rw[if_neg h1] at h;exact h
    have c0':=(hB1.cell (p:=⟨w.heap.size,k*3,none⟩) hbl).trans c0;have c1':=(hB1.cell (p:=⟨w.heap.size,k*3+1,none⟩) hbl).trans c1;have c2':=(hB1.cell (p:=⟨w.heap.size,k*3+2,none⟩) hbl).trans c2;have f0':=(hB1.frozen (p:=⟨w.heap.size,k*3,none⟩) hbl).trans f0;have f1':=(hB1.frozen (p:=⟨w.heap.size,k*3+1,none⟩) hbl).trans f1;have f2':=(hB1.frozen (p:=⟨w.heap.size,k*3+2,none⟩) hbl).trans f2;have hbl1:w.heap.size<w1.heap.size:=Nat.lt_of_lt_of_le hbl hB1.size;have HR:Hid (ku L=(jY l).1):=hid (by rw[hE.out,HD.out,if_neg h1]);have HB2:=hid ((((hB.out.trans (hB1.mono hB.out.size)).setCell (p:=⟨w.heap.size,k*3,none⟩) (Nat.le_refl _) (.bool false)).setCell (p:=⟨w.heap.size,k*3+1,none⟩) (Nat.le_refl _) (.slice none 0 0)).setCell (p:=⟨w.heap.size,k*3+2,none⟩) (Nat.le_refl _) (.slice none 0 0))
    have h1':((jY l).1 != 0)=true:=by simpa using h1
    have H1:=hid h1;unfold j6;generalize (jY l).1=ec at *;clear h h1 hB1 hO hE hB c0 c1 c2 f0 f1 f2 hkes HV HD
    go_wp2
    go_ret2;exact⟨HB2.out,.inr ⟨by rw[HR.out];exact H1.out,by rw[HR.out];rfl⟩⟩
def kd (w:World) (v:Value) (M:List (List jn)):Prop:=
 ∃vs:List Value,jB w v vs∧vs.length=M.length ∧ ∀(i:Nat) (r:List jn),M[i]? =some r → ∃u,vs[i]? =some u∧jB w u (jO r)
theorem kd.below {w w':World} {v:Value} {M:List (List jn)} (h:kd w v M) (hb:Below w.heap.size w w'):kd w' v M:=by
 obtain⟨vs,h1,h2,h3⟩:=h;exact⟨vs,h1.below hb,h2,fun i r hr=>by obtain⟨u,hu,hs⟩:=h3 i r hr;exact⟨u,hu,hs.below hb⟩⟩
theorem kd.form {w:World} {v:Value} {M:List (List jn)} (h:kd w v M):∃A c,v = .slice A M.length c∧M.length≤c∧M.length≤140737488355328:=by
 obtain⟨vs,h1,h2,_⟩:=h;obtain⟨A,c,h3,h4,h5⟩:=h1.form;rw[h2] at h3 h4 h5;exact⟨A,c,h3,h4,h5⟩
def xk (n0:Nat):List (List jn)→Int
 | []=>0
 | r::t=>if 256<r.length then 5 else if r.length≠n0 then 2 else if ku r=0 then xk n0 t else ku r
def jT (M:List (List jn)):Int:=if 256<M.length then 5 else xk ((M[0]?.map (·.length)).getD 0) M
theorem Gw (n0 k:Nat) (M:List (List jn)) {r:List jn} (hr:M[k]? =some r):xk n0 (M.drop k)=if 256<r.length then 5 else if r.length≠n0 then 2 else if ku r=0 then xk n0 (M.drop (k+1)) else ku r:=by
 obtain⟨hk,rfl⟩:=List.getElem?_eq_some_iff.1 hr;rw[List.drop_eq_getElem_cons hk];rfl
def Fc (M:List (List jn)) (w:World) (e:Ending) (w':World):Prop:=
 Below w.heap.size w w'∧((jT M=0 ∧ ∃(g:Nat) (R:List jr),e = .returned (.tuple #[.slice (some ⟨g,0,none⟩) M.length M.length,.int .i64 0])∧w.heap.size≤g∧(∀r∈R,w.heap.size≤r.1)∧j8 w' g R ((M[0]?.map (·.length)).getD 0)∧ju R=M.map ji) ∨
  (jT M≠0∧e = .returned (.tuple #[jm,.int .i64 (jT M)])))
theorem Zu (v:Value) (M:List (List jn)) (w:World) (hv:kd w v M) (hT:∀r∈M,∀l∈r,xq l) (hG:jN w):
  Calls Tryz.prog 145 #[v,.func (.func 102) #[] #[]] w (Fc M w):=by
 obtain⟨vs,hs,hvl,hrow⟩:=hv;obtain⟨A,c,rfl,hc1,hc2⟩:=hs.form;have HROW:=hid hrow;have HT:=hid hT;have HG:=hid hG;clear hrow hT hG;rw[hvl] at hc1 hc2 hs ⊢;by_cases hbig:256<M.length
 ·have HE:Hid (jT M=5):=hid (by unfold jT;rw[if_pos hbig])
  have hbi:(256:Int)<(M.length:Int):=by omega
  clear hs;go_enter Tryz.func145,Tryz.ntmps145
  go_wp2
  go_ret2;exact⟨Below.refl _ _,.inr ⟨by rw[HE.out];decide,by rw[HE.out];rfl⟩⟩
 ·have hbi:¬(256:Int)<(M.length:Int):=by omega
  obtain⟨n,hn⟩:∃n,n=(M[0]?.map (·.length)).getD 0:=⟨_,rfl⟩
  have HN:=hid hn;have HME:Hid (jT M=xk n M):=hid (by unfold jT;rw[if_neg hbig,hn]);clear hn
  obtain⟨V,hV⟩:∃V,V=M.map ji:=⟨_,rfl⟩
  have HV:=hid hV;have HVl:Hid (V.length=M.length):=hid (by rw[hV];simp);clear hV;have hmk:=VP w M.length (by omega);have HS0:Hid (qW w (w.alloc (.cells (List.replicate M.length jm).toArray 167)) w.heap.size n V 0 []):=hid (by have:=qW.start w V n;rw[HVl.out] at this;exact this);have hB0:Below w.heap.size w (w.alloc (.cells (List.replicate M.length jm).toArray 167)):=(Below.refl _ _).alloc (Nat.le_refl _) _;go_enter Tryz.func145,Tryz.ntmps145
  go_wp2_with fail
  clear hmk
  go_loopg [18] M.length (fun gh i wr=>∃(k:Nat) (R:List jr),i = .int .i64 k∧k+gh=M.length∧Hid (xk n M=xk n (M.drop k))∧Hid (qW w wr w.heap.size n V k R)∧Below w.heap.size w wr)
  case atStart=>exact⟨0,[],rfl,by omega,hid rfl,HS0,hB0⟩
  case round=>
   clear HS0 hB0;obtain⟨k,R,rfl,hk,hE,hTo,hB⟩:=hrel
   cases gk with
   | zero=>
    have hkl:k=M.length:=by omega
    have hin:¬((k:Int)<(M.length:Int)):=by omega
    have HR:Hid (jT M=0):=hid (by rw[HME.out,hE.out,hkl,List.drop_length];rfl);have HMX:=hid (show qW w wr w.heap.size n V V.length R by have:=hTo.out;rw[hkl,←HVl.out] at this;exact this).done;have HNW:=hid hTo.out.new;clear hE hTo hk hkl
    go_wp2
    go_ret2;exact⟨hB,.inl ⟨HR.out,_,R,rfl,Nat.le_refl _,HNW.out,HN.out ▸ HMX.out.1,HMX.out.2.1.trans HV.out⟩⟩
   | succ gh=>
    have hlt:k<M.length:=by omega
    have hlt':(k:Int)<(M.length:Int):=by omega
    obtain⟨r,hr⟩:∃r,M[k]? =some r:=⟨M[k],List.getElem?_eq_getElem hlt⟩
    obtain⟨r0,hr0⟩:∃r,M[0]? =some r:=⟨M[0]'(by omega),List.getElem?_eq_getElem _⟩
    have hn0:r0.length=n:=by rw[HN.out,hr0];rfl
    obtain⟨u,hu,hus⟩:=HROW.out k r hr;obtain⟨u0,hu0,hus0⟩:=HROW.out 0 r0 hr0;obtain⟨b0,off,hA,hbb,hcell⟩:=hs.at_ (k:=k) (by omega);have hc1':=(hB.cell (p:=⟨b0,off+k,none⟩) hbb).trans ((hcell k (by omega)).trans hu);have hc0':=(hB.cell (p:=⟨b0,off,none⟩) hbb).trans ((hcell 0 (by omega)).trans hu0);obtain⟨A1,k1,rfl,hk1,hk2⟩:=hus.form;obtain⟨A0,k0,rfl,hk3,hk4⟩:=hus0.form;simp only[qg] at hk1 hk2 hk3 hk4 hus hc1' hc0';rw[hn0] at hc0';have HD:=hid (Gw n k M hr);have Hk:=hid hk;have HVr:Hid (V[k]? =some (ji r)):=hid (by rw[HV.out,List.getElem?_map,hr];rfl);have HTr:=hid (HT.out r (List.mem_of_getElem? hr));have CV:=hid (fun (hl:r.length≤1000000) W (hw:Below w.heap.size w W)=>UJ (.slice A1 r.length k1) r W (hus.below hw) hl HTr.out (HG.out.below hw));subst hA;clear hu hu0 hus hus0 hcell hr hr0 hn0 hk hc1 hs;by_cases h1:256<r.length
    ·have hr1:(256:Int)<(r.length:Int):=by omega
     have HR:Hid (jT M=5):=hid (by rw[HME.out,hE.out,HD.out,if_pos h1])
     go_wp2
     go_ret2;exact⟨hB,.inr ⟨by rw[HR.out];decide,by rw[HR.out];rfl⟩⟩
    ·have hr1:¬(256:Int)<(r.length:Int):=by omega
     by_cases h2:r.length=n
     ·subst h2
      have CV2:=hid (CV.out (by omega) wr hB);have hgl:=hTo.out.own.lt
      have hck:=(hTo.out.own.cell k).trans (show _=some jm by
       rw[List.getElem?_append_right (by rw[List.length_map,hTo.out.len (by rw[HVl.out];omega)];exact Nat.le_refl _),List.length_map,hTo.out.len (by rw[HVl.out];omega),Nat.sub_self,List.getElem?_replicate,if_pos (by rw[HVl.out];omega)])
      have hfk:=hTo.out.own.free k
      have hrn:r.length≤256:=by omega
      go_wp2_with fail
      refine CV2.out.mono ?_;rintro e w1 ⟨hB1,⟨hib,gn,esn,rfl,hg,hO1⟩ | ⟨hib,rfl⟩⟩
      ·have hck1:=(hB1.cell (p:=⟨w.heap.size,k,none⟩) hgl).trans hck
       have hfk1:=(hB1.frozen (p:=⟨w.heap.size,k,none⟩) hgl).trans hfk;have HT2:=hid (hTo.out.step (cn:=r.length) HVr.out (by simp[ji]) (Nat.le_refl _) (by omega) hB1 hg (Nat.le_trans hB.size hg) hO1);have HE2:Hid (xk r.length M=xk r.length (M.drop (k+1))):=hid (by rw[hE.out,HD.out,if_neg h1,if_neg (by simp),if_pos hib]);have HB2:=hid ((hB.trans (hB1.mono hB.size)).setCell (p:=⟨w.heap.size,k,none⟩) (Nat.le_refl _) (.slice (some ⟨gn,0,none⟩) r.length r.length));clear hTo hE hck hfk hib hO1
       go_wp2
       go_roundg gh
       case rel=>exact⟨k+1,_,by go_num,by have:=Hk.out;omega,HE2,HT2,HB2.out⟩
       case measure=>omega
      ·have hck1:=(hB1.cell (p:=⟨w.heap.size,k,none⟩) hgl).trans hck
       have hfk1:=(hB1.frozen (p:=⟨w.heap.size,k,none⟩) hgl).trans hfk;have HR:Hid (jT M=ku r):=hid (by rw[HME.out,hE.out,HD.out,if_neg h1,if_neg (by simp),if_neg hib]);have HB2:=hid ((hB.trans (hB1.mono hB.size)).setCell (p:=⟨w.heap.size,k,none⟩) (Nat.le_refl _) jm)
       have hne:(ku r != 0)=true:=by simpa using hib
       have HIB:=hid hib;generalize ku r=ec at *;clear hTo hE hck hfk hib
       go_wp2
       go_ret2;exact⟨HB2.out,.inr ⟨by rw[HR.out];exact HIB.out,by rw[HR.out];rfl⟩⟩
     ·have hr2:((r.length:Int) != (n:Int))=true:=by simp;omega
      have HR:Hid (jT M=2):=hid (by rw[HME.out,hE.out,HD.out,if_neg h1,if_pos h2])
      go_wp2
      go_ret2;exact⟨hB,.inr ⟨by rw[HR.out];decide,by rw[HR.out];rfl⟩⟩
theorem Vy:(Tryz.prog.info? 22).map (fun i=>(i.zero,i.size,i.bytes))=some (some (.string ⟨#[]⟩),1,16):=by kernel_rfl
theorem Fk (n:Nat):jO (List.replicate n [])=List.replicate n (.string ⟨#[]⟩):=by simp[jO,sv]
theorem DP (w:World) (n:Nat) (hn:n≤1000000):(Instr.makeSlice 85 (.int .i64 (n:Int)) (.int .i64 (n:Int))).run Tryz.prog w = .ok (.slice (some ⟨w.heap.size,0,none⟩) n n) (w.alloc (.cells (jO (List.replicate n [])).toArray 22)):=by
 have:=run_make_row' (P:=Tryz.prog) 85 22 (.string ⟨#[]⟩) 16 Tryz.underlying85 Vy rfl .i64 .i64 n (by omega) (by omega) w;rw[zY] at this;rw[Fk];exact this
def zi (L:List Rat) (k:Nat):List jn:=(L.take k).map jg++List.replicate (L.length-k) []
theorem Lj (L:List Rat) (k:Nat) (h:k≤L.length):(zi L k).length=L.length:=by simp[zi];omega
theorem Lk (L:List Rat) (k:Nat) (h:k<L.length):(zi L k).set k (jg (L[k]?.getD 0))=zi L (k+1):=by
 unfold zi;rw[List.take_add_one,List.getElem?_eq_getElem h,List.map_append,List.set_append_right _ _ (by simp;omega),show L.length-k=(L.length-(k+1))+1 by omega,List.replicate_succ,List.length_map,List.length_take,Nat.min_eq_left (by omega),Nat.sub_self,List.set_cons_zero,List.append_assoc];rfl
theorem Fl (L:List jn) (k:Nat) (l:jn):(jO L).set k (.string ⟨l.toArray⟩)=jO (L.set k l):=by simp[jO,List.map_set,sv]
def Mu (L:List Rat) (w:World) (e:Ending) (w':World):Prop:=
 Below w.heap.size w w'∧(((∀q∈L,¬kR q) ∧ ∃g,e = .returned (.tuple #[.slice (some ⟨g,0,none⟩) L.length L.length,.int .i64 0])∧w.heap.size≤g∧ja w' g 22 (jO (L.map jg)))∨((∃q∈L,kR q)∧e = .returned (.tuple #[jm,.int .i64 4])))
theorem Sk (b n c:Nat) (es:List El) (L:List Rat) (w:World) (hO:jp w b es L) (hn:n=L.length) (hl:n≤1000000) (_hc:n≤c) (hF:∀q∈L,kv q) (hG:jN w):
  Calls Tryz.prog 208 #[.slice (some ⟨b,0,none⟩) n c,.func (.func 124) #[] #[]] w (Mu L w):=by
 have hmk:=DP w n hl;have HB:=hid (ja.make w 22 (jO (List.replicate n [])));have HN:=hid hn;have HR:=hid hO;have HF:=hid hF;have HG:=hid hG;clear hn hO hF hG;go_enter Tryz.func208,Tryz.ntmps208
 go_wp2_with fail
 clear hmk
 go_loopg [15] n (fun gh i wr=>∃k:Nat,i = .int .i64 k∧k+gh=n∧Hid (∀q∈L.take k,¬kR q)∧Hid (ja wr w.heap.size 22 (jO (zi L k)))∧Hid (Below w.heap.size w wr))
 case atStart=>exact⟨0,rfl,by omega,hid (by simp),hid (by have:=HB.out;rw[HN.out] at this ⊢;simpa [zi] using this),hid ((Below.refl _ _).alloc (Nat.le_refl _) _)⟩
 case round=>
  clear HB;obtain⟨k,rfl,hk,hI,hO,hB⟩:=hrel
  cases gk with
  | zero=>
   have hkl:k=n:=by omega
   have hin:¬((k:Int)<(n:Int)):=by omega
   have HI:=hid (show ∀q∈L,¬kR q by have:=hI.out;rwa [hkl,HN.out,List.take_of_length_le (Nat.le_refl _)] at this);have HO:=hid (show ja wr w.heap.size 22 (jO (L.map jg)) by have:=hO.out;rw[hkl,HN.out] at this;simpa [zi] using this);clear hkl hI hO hk
   go_wp2
   go_ret2;exact⟨hB.out,.inl ⟨HI.out,_,by rw[←HN.out];rfl,Nat.le_refl _,HO.out⟩⟩
  | succ gh=>
   have hlt:k<n:=by omega
   have hlt':(k:Int)<(n:Int):=by omega
   have hltL:k<L.length:=by rw[←HN.out];exact hlt
   obtain⟨q,hq⟩:∃q,L[k]? =some q:=⟨L[k],List.getElem?_eq_getElem hltL⟩
   obtain⟨e,A1,n1,c1,A2,n2,c2,zz0,hee,hrt,y0,y1,y2,zz1,zz2,zz3⟩:=(HR.out.below hB.out).at_ (j:=k) hltL;clear zz0 zz1 zz2 zz3;obtain⟨e0,ea,eb⟩:=e
   have hea:ea = .slice A1 n1 c1∧eb = .slice A2 n2 c2:=by simpa using hee
   obtain⟨rfl,rfl⟩:=hea;clear hee;unfold k8 at hrt;dsimp only at y0 hrt;have hbl:b<wr.heap.size:=(HR.out.below hB.out).own.lt;have hqF:=HF.out q (List.mem_of_getElem? hq);have hck2:=(hO.out.cell k).trans (JC _ k (by rw[Lj L k (by omega)];omega));have hfr:=hO.out.free k;have hol:=hO.out.lt;have Hs:=hid (Lk L k hltL);have Ht:Hid (L.take (k+1)=L.take k++[q]):=hid (by rw[List.take_add_one,hq];rfl);have Hm:Hid (q∈L):=hid (List.mem_of_getElem? hq);have Hk:=hid hk
   have hqe:L[k]?.getD 0=q:=by rw[hq];rfl
   rw[hqe] at hrt Hs;have hal:Below wr.heap.size wr (wr.alloc (.cells #[.bool e0,.slice A1 n1 c1,.slice A2 n2 c2] 122)):=(Below.refl _ _).alloc (Nat.le_refl _) _;have WR:=hid (XP (.agg #[.bool e0,.slice A1 n1 c1,.slice A2 n2 c2]) q _ (hrt.below hal) hqF.1 hqF.2 (HG.out.below (hB.out.trans (hal.mono hB.out.size))));generalize (zi L k)[k]?.getD []=y at *;unfold sv at hck2;clear hq hqF hqe hk hrt hal
   go_wp2_with fail
   refine WR.out.mono ?_;clear WR;rintro e w1 ⟨rfl,hB1⟩;have hB15:Below wr.heap.size wr w1:=((Below.refl wr.heap.size wr).alloc (Nat.le_refl _) _).trans (hB1.mono (by simp));have hck3:=(hB15.cell (p:=⟨w.heap.size,k,none⟩) hol).trans hck2;have hfr3:=(hB15.frozen (p:=⟨w.heap.size,k,none⟩) hol).trans hfr;have hol3:w.heap.size<w1.heap.size:=Nat.lt_of_lt_of_le hol hB15.size;by_cases hlong:kR q
   ·rw[Qr hlong]
    have HX:Hid (∃q∈L,kR q):=hid ⟨q,Hm.out,hlong⟩;have HB2:=hid ((hB.out.trans (hB15.mono hB.out.size)).setCell (p:=⟨w.heap.size,k,none⟩) (Nat.le_refl _) (.string ⟨#[]⟩));clear hlong hB1 hB15 hO hB hI y0 y1 y2 hck2 hfr
    go_wp2
    go_ret2;exact⟨HB2.out,.inr ⟨HX.out,rfl⟩⟩
   ·rw[Je hlong]
    have HI2:Hid (∀q∈L.take (k+1),¬kR q):=hid (by
     rw[Ht.out];intro z hz;rcases List.mem_append.1 hz with h | h
     ·exact hI.out z h
     ·rw[List.mem_singleton.1 h];exact hlong)
    have HO2:Hid (ja (w1.setCell ⟨w.heap.size,k,none⟩ (.string ⟨(jg q).toArray⟩)) w.heap.size 22 (jO (zi L (k+1)))):=hid (by
     rw[←Hs.out,←Fl];exact(hO.out.below hB15 hol).put _ _)
    have HB2:=hid ((hB.out.trans (hB15.mono hB.out.size)).setCell (p:=⟨w.heap.size,k,none⟩) (Nat.le_refl _) (.string ⟨(jg q).toArray⟩));clear hlong hB1 hB15 hO hB hI y0 y1 y2 hck2 hfr Hs;generalize jg q=tx at *
    go_wp2
    go_roundg gh
    case rel=>exact⟨k+1,by go_num,by have:=Hk.out;omega,HI2,HO2,HB2⟩
    case measure=>omega
theorem Mw (b n c:Nat) (es:List El) (L:List Rat) (w:World) (hO:jp w b es L) (hn:n=L.length) (hl:n≤1000000) (_hc:n≤c) (hF:∀q∈L,kv q) (hG:jN w):
  Calls Tryz.prog 155 #[.slice (some ⟨b,0,none⟩) n c] w (Mu L w):=by
 have CW:=hid (Sk b n c es L w hO hn hl _hc hF hG);clear hO hn hF hG;go_enter Tryz.func155,Tryz.ntmps155
 go_wp2_with fail
 refine CW.out.mono ?_;rintro e w1 ⟨hB1,⟨hok,g,rfl,hg,hO1⟩ | ⟨hno,rfl⟩⟩
 ·have HO:=hid hO1
  have HK:=hid hok;clear hO1 hok CW
  go_wp2
  go_ret2;exact⟨hB1,.inl ⟨HK.out,g,rfl,hg,HO.out⟩⟩
 ·have HK:=hid hno
  clear hno CW
  go_wp2
  go_ret2;exact⟨hB1,.inr ⟨HK.out,rfl⟩⟩
