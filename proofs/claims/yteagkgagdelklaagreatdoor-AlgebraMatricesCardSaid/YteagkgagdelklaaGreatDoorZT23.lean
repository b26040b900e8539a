/- Contracts: matrices of integers are read, modulo a prime number. -/
import Derived.Test.YteagkgagdelklaaGreatDoorZT20
set_option maxRecDepth 100000
set_option maxHeartbeats 4000000
namespace Go.Proofs.YteagkgagdelklaaGreatDoor
open Go.RowKit
def yW (L:List Int):Prop:=∀x∈L,-999999999≤x∧x≤999999999
def KQ (x:Int):Int:=qw x (-999999999) 999999999
theorem CT {x:Int} (h: -999999999≤x∧x≤999999999):KQ x=0:=by unfold KQ qw;rw[if_pos h]
theorem CS {x:Int} (h:¬(-999999999≤x∧x≤999999999)):KQ x=3:=by unfold KQ qw;rw[if_neg h]
theorem Mg (x:Int) (w:World):Calls Tryz.prog 110 #[.int .i64 x] w fun e w'=>e = .returned (.tuple #[.int .i64 x,.int .i64 (KQ x)])∧w=w':=by
 obtain⟨v,hv⟩:∃v,v=KQ x:=⟨_,rfl⟩
 have BD:=Lib.hid (fun W=>(by rw[hv];exact Qk x W:Calls Tryz.prog 49 #[.int .i64 x] W fun e w'=>e = .returned (.int .i64 v)∧W=w'));rw[←hv];clear hv;go_enter Tryz.func110,Tryz.ntmps110
 go_wp2_with (go_at_call 49;refine(BD.out _).mono ?_;rintro e w' ⟨rfl,rfl⟩)
 go_ret2;exact⟨rfl,rfl⟩
def xC (L:List Int) (k:Nat):List Int:=L.take k++List.replicate (L.length-k) 0
theorem G9 (L:List Int) (k:Nat) (h:k≤L.length):(xC L k).length=L.length:=by simp[xC];omega
theorem Ha (L:List Int) (k:Nat) (h:k<L.length):(xC L k).set k (L[k]?.getD 0)=xC L (k+1):=by
 unfold xC;rw[Yx L k h,QbN _ _ (by simp;omega),show L.length-k=(L.length-(k+1))+1 by omega,Qa6,Qak,QaJ (by omega),QbE,Qaq,QaV];rfl
theorem Hw (L:List Int):xC L 0=List.replicate L.length 0:=by simp[xC]
theorem G8 (L:List Int):xC L L.length=L:=by simp[xC]
theorem BA (w:World) (n:Nat) (hn:n≤17592186044416):(Instr.makeSlice 118 (.int .i64 (n:Int)) (.int .i64 (n:Int))).run Tryz.prog w = .ok (.slice (some ⟨w.heap.size,0,none⟩) n n) (w.alloc (.cells (je (List.replicate n 0)).toArray 2)):=by
 have:=W6 w n hn;simpa [kS,je] using this
def Nf (L:List Int) (w:World) (e:Ending) (w':World):Prop:=
 Below w.heap.size w w'∧((yW L ∧ ∃g,e = .returned (.tuple #[.slice (some ⟨g,0,none⟩) L.length L.length,.int .i64 0])∧w.heap.size≤g∧ja w' g 2 (je L))∨(¬yW L∧e = .returned (.tuple #[jn,.int .i64 3])))
theorem Nh (v:Value) (L:List Int) (w:World) (hv:Sl w 1 v (je L)) (hl:L.length≤1000000):
  Calls Tryz.prog 146 #[v,.func (.func 110) #[] #[]] w (Nf L w):=by
 obtain⟨A,c,rfl,hc1,hc2⟩:=hv.form;simp only[ku] at hc1 hv ⊢;have hmk:=BA w L.length (by omega);have HO:=Lib.hid (ja.make w 2 (je (List.replicate L.length 0)));go_enter Tryz.func146,Tryz.ntmps146
 go_wp2_with fail
 go_loopg [15] L.length (fun gh i wr=>∃k:Nat,i = .int .i64 k∧k+gh=L.length∧Hid (yW (L.take k))∧Hid (ja wr w.heap.size 2 (je (xC L k)))∧Below w.heap.size w wr)
 case atStart=>exact⟨0,rfl,by omega,Lib.hid (by unfold yW;simp),Lib.hid (by rw[Hw];exact HO.out),(Below.refl _ _).alloc (Nat.le_refl _) _⟩
 case round=>
  clear hmk HO;obtain⟨k,rfl,hk,hI,hO,hB⟩:=hrel
  cases gk with
  | zero=>
   have hkl:k=L.length:=by omega
   have hin:¬((k:Int)<(L.length:Int)):=by omega
   have HI:=Lib.hid (show yW L by have:=hI.out;rwa [hkl,Qad (Nat.le_refl _)] at this);have HO:=Lib.hid (show ja wr w.heap.size 2 (je L) by have:=hO.out;rwa [hkl,G8] at this);clear hkl hI hO hk
   go_wp2
   go_ret2;exact⟨hB,.inl ⟨HI.out,_,rfl,Nat.le_refl _,HO.out⟩⟩
  | succ gh=>
   have hlt:k<L.length:=by omega
   obtain⟨b0,off,rfl,hbb,hcell⟩:=hv.at_ (k:=k) (by rw[ku];omega);have hck:=(hB.cell (p:=⟨b0,off+k,none⟩) hbb).trans ((hcell k (by rw[ku];omega)).trans (kz L k hlt));have hck2:=(hO.out.cell k).trans (kz _ k (by rw[G9 L k (by omega)];omega));have hfr:=hO.out.free k;have Hs:=Lib.hid (Ha L k hlt);have Ht:=Lib.hid (Yx L k hlt);have Hm:Hid (L[k]?.getD 0∈L):=Lib.hid (by rw[Qaa hlt];exact Qay hlt);have Hk:=Lib.hid hk;generalize L[k]?.getD 0=x at *;generalize (xC L k)[k]?.getD 0=y at *;clear hcell hv hk;by_cases hx: -999999999≤x∧x≤999999999
   ·have HX:=Lib.hid hx
    have HE:=Lib.hid (CT hx);clear hx
    go_wp2_with (go_at_call 110;refine(Mg _ _).mono ?_;rintro e w' ⟨rfl,rfl⟩;rw[HE.out])
    have HO2:Hid (ja (wr.setCell ⟨w.heap.size,k,none⟩ (.int .i64 x)) w.heap.size 2 (je (xC L (k+1)))):=Lib.hid (by rw[←Hs.out,←x6];exact hO.out.put _ _)
    go_roundg gh
    case rel=>exact⟨k+1,by go_num,by have:=Hk.out;omega,Lib.hid (by rw[Ht.out];intro z hz;rcases List.mem_append.1 hz with h | h;exact hI.out z h;rw[List.mem_singleton.1 h];exact HX.out),HO2,hB.setCell (by simp) _⟩
    case measure=>omega
   ·have HX:=Lib.hid hx
    have HE:=Lib.hid (CS hx);clear hx
    go_wp2_with (go_at_call 110;refine(Mg _ _).mono ?_;rintro e w' ⟨rfl,rfl⟩;rw[HE.out])
    go_ret2;exact⟨hB.setCell (by simp) _,.inr ⟨fun h=>HX.out (h _ Hm.out),rfl⟩⟩
def zx (w:World) (v:Value) (M:List (List Int)):Prop:=
 ∃vs:List Value,Sl w 1 v vs∧vs.length=M.length ∧ ∀(i:Nat) (r:List Int),M[i]? =some r → ∃u,vs[i]? =some u∧Sl w 1 u (je r)
instance (L:List Int):Decidable (yW L):=by unfold yW;infer_instance
def zj (n0:Nat):List (List Int)→Int
 | []=>0
 | r::t=>if 256<r.length then 5 else if r.length≠n0 then 2 else if yW r then zj n0 t else 3
def kW (M:List (List Int)):Int:=if 256<M.length then 5 else zj ((M[0]?.map (·.length)).getD 0) M
theorem Oh (n0 k:Nat) (M:List (List Int)) {r:List Int} (hr:M[k]? =some r):zj n0 (M.drop k)=if 256<r.length then 5 else if r.length≠n0 then 2 else if yW r then zj n0 (M.drop (k+1)) else 3:=by
 obtain⟨hk,rfl⟩:=List.getElem?_eq_some_iff.1 hr;rw[QaF hk];rfl
def Oj (M:List (List Int)) (w:World) (e:Ending) (w':World):Prop:=
 Below w.heap.size w w'∧((kW M=0 ∧ ∃(g:Nat) (R:List jS),e = .returned (.tuple #[.slice (some ⟨g,0,none⟩) M.length M.length,.int .i64 0])∧w.heap.size≤g∧(∀r∈R,w.heap.size≤r.1)∧kj w' g R ((M[0]?.map (·.length)).getD 0)∧R.map (·.2.2)=M) ∨
  (kW M≠0∧e = .returned (.tuple #[jn,.int .i64 (kW M)])))
theorem BB (w:World) (n:Nat) (hn:n≤1000000):(Instr.makeSlice 112 (.int .i64 (n:Int)) (.int .i64 (n:Int))).run Tryz.prog w = .ok (.slice (some ⟨w.heap.size,0,none⟩) n n) (w.alloc (.cells (List.replicate n jn).toArray 118)):=by
 have:=run_make_row' (P:=Tryz.prog) 112 118 jn 24 Tryz.underlying112 Wu rfl .i64 .i64 n (by omega) (by omega) w;rw[JG] at this;exact this
structure Kv (w wr:World) (g n:Nat) (M:List (List Int)) (k:Nat) (R:List jS):Prop where
 own:ja wr g 118 (R.map (qL n)++List.replicate (M.length-k) jn)
 rows:∀r∈R,ja wr r.1 2 (je r.2.2)∧r.2.2.length=n∧n≤r.2.1∧r.2.1≤1000000
 new:∀r∈R,w.heap.size≤r.1
 apart:(R.map (·.1)).Nodup
 vals:R.map (·.2.2)=M.take k
theorem Kv.len {w wr:World} {g n:Nat} {M:List (List Int)} {k:Nat} {R:List jS} (h:Kv w wr g n M k R) (hk:k≤M.length):R.length=k:=by
 have:=congrArg List.length h.vals;simp at this;omega
theorem Kv.step {w wr w1:World} {g n gn:Nat} {M:List (List Int)} {k:Nat} {R:List jS} {r:List Int} (h:Kv w wr g n M k R) (hk:M[k]? =some r) (hl:r.length=n) (hn:n≤1000000) (hb:Below wr.heap.size wr w1) (hg:wr.heap.size≤gn) (hgn:w.heap.size≤gn) (hO:ja w1 gn 2 (je r)):
  Kv w (w1.setCell ⟨g,k,none⟩ (.slice (some ⟨gn,0,none⟩) n n)) g n M (k+1) (R++[(gn,n,r)]):=by
 have hkl:k<M.length:=(List.getElem?_eq_some_iff.1 hk).1;have hR:=h.len (by omega);have hglt:=h.own.lt;refine⟨?_,?_,?_,?_,?_⟩
 ·have:=(h.own.below hb hglt).put k (.slice (some ⟨gn,0,none⟩) n n)
  rw[QbN _ _ (by simp[hR]),show M.length-k=(M.length-(k+1))+1 by omega,Qa6,Qar,hR,QbE,Qaq] at this;rw[QaQ,QaV];exact this
 ·intro x hx
  rcases List.mem_append.1 hx with hx | hx
  ·have:=h.rows x hx
   have hxl:=this.1.lt
   exact⟨(this.1.below hb hxl).other (p:=⟨g,k,none⟩) (fun e=>by
    have h1:=this.1;have h2:=h.own;unfold ja at h1 h2;rw[show x.1=g from e] at h1;rw[h2] at h1
    injection h1 with h1
    injection h1 with _ h1
    exact absurd h1 (by decide)) _,this.2⟩
  ·obtain rfl:=List.mem_singleton.1 hx
   exact⟨hO.other (p:=⟨g,k,none⟩) (fun e=>by simp at e;omega) _,hl,Nat.le_refl _,hn⟩
 ·intro x hx
  rcases List.mem_append.1 hx with hx | hx
  ·exact h.new x hx
  ·obtain rfl:=List.mem_singleton.1 hx;exact hgn
 ·rw[QaQ,List.nodup_append]
  refine⟨h.apart,by simp,fun a ha b hb'=> ?_⟩;obtain⟨x,hx,rfl⟩:=List.mem_map.1 ha;simp at hb';have:=(h.rows x hx).1.lt;omega
 ·rw[QaQ,h.vals,Qa5,hk];rfl
theorem FV (v:Value) (M:List (List Int)) (w:World) (hv:zx w v M):
  Calls Tryz.prog 109 #[v,.func (.func 110) #[] #[]] w (Oj M w):=by
 obtain⟨vs,hs,hvl,hrow⟩:=hv;obtain⟨A,c,rfl,hc1,hc2⟩:=hs.form;have HROW:=Lib.hid hrow;clear hrow;rw[hvl] at hc1 hs ⊢;by_cases hbig:256<M.length
 ·have HE:Hid (kW M=5):=Lib.hid (by unfold kW;rw[if_pos hbig])
  have hbi:(256:Int)<(M.length:Int):=by omega
  clear hs;go_enter Tryz.func109,Tryz.ntmps109
  go_wp2
  go_ret2;exact⟨Below.refl _ _,.inr ⟨by rw[HE.out];decide,by rw[HE.out];rfl⟩⟩
 ·have hbi:¬(256:Int)<(M.length:Int):=by omega
  obtain⟨n,hn⟩:∃n,n=(M[0]?.map (·.length)).getD 0:=⟨_,rfl⟩
  have HN:=Lib.hid hn;have HME:Hid (kW M=zj n M):=Lib.hid (by unfold kW;rw[if_neg hbig,hn]);clear hn;have hmk:=BB w M.length (by omega);have HO:=Lib.hid (ja.make w 118 (List.replicate M.length jn));have hB0:Below w.heap.size w (w.alloc (.cells (List.replicate M.length jn).toArray 118)):=(Below.refl _ _).alloc (Nat.le_refl _) _;go_enter Tryz.func109,Tryz.ntmps109
  go_wp2_with fail
  go_loopg [18] M.length (fun gh i wr=>∃(k:Nat) (R:List jS),i = .int .i64 k∧k+gh=M.length∧Hid (zj n M=zj n (M.drop k))∧Hid (Kv w wr w.heap.size n M k R)∧Below w.heap.size w wr)
  case atStart=>exact⟨0,[],rfl,by omega,Lib.hid rfl,Lib.hid ⟨by simpa using HO.out,by simp,by simp,by simp,by simp⟩,hB0⟩
  case round=>
   clear hmk HO hB0;obtain⟨k,R,rfl,hk,hE,hT,hB⟩:=hrel
   cases gk with
   | zero=>
    have hkl:k=M.length:=by omega
    have hin:¬((k:Int)<(M.length:Int)):=by omega
    have HR:Hid (kW M=0):=Lib.hid (by rw[HME.out,hE.out,hkl,List.drop_length];rfl)
    have HMX:Hid (kj wr w.heap.size R n∧R.map (·.2.2)=M):=Lib.hid (by
     have h:=hT.out;rw[hkl] at h
     exact⟨⟨by have:=h.own;simpa using this,h.rows,h.apart⟩,by rw[h.vals,List.take_length]⟩)
    have HNW:=Lib.hid hT.out.new;clear hE hT hk hkl
    go_wp2
    go_ret2;exact⟨hB,.inl ⟨HR.out,_,R,rfl,Nat.le_refl _,HNW.out,HN.out ▸ HMX.out.1,HMX.out.2⟩⟩
   | succ gh=>
    have hlt:k<M.length:=by omega
    have hlt':(k:Int)<(M.length:Int):=by omega
    obtain⟨r,hr⟩:∃r,M[k]? =some r:=⟨M[k],Qaa hlt⟩
    obtain⟨r0,hr0⟩:∃r,M[0]? =some r:=⟨M[0]'(by omega),Qaa _⟩
    have hn0:r0.length=n:=by rw[HN.out,hr0];rfl
    obtain⟨u,hu,hus⟩:=HROW.out k r hr;obtain⟨u0,hu0,hus0⟩:=HROW.out 0 r0 hr0;obtain⟨b0,off,hA,hbb,hcell⟩:=hs.at_ (k:=k) (by omega);have hc1':=(hB.cell (p:=⟨b0,off+k,none⟩) hbb).trans ((hcell k (by omega)).trans hu);have hc0':=(hB.cell (p:=⟨b0,off,none⟩) hbb).trans ((hcell 0 (by omega)).trans hu0);obtain⟨A1,k1,rfl,hk1,hk2⟩:=hus.form;obtain⟨A0,k0,rfl,hk3,hk4⟩:=hus0.form;simp only[ku] at hk1 hk3 hus hc1' hc0';rw[hn0] at hc0';have HD:=Lib.hid (Oh n k M hr);have Hk:=Lib.hid hk;have Hr:=Lib.hid hr;have CV:=Lib.hid (fun (hl:r.length≤1000000) W (hw:Below w.heap.size w W)=>Nh (.slice A1 r.length k1) r W (hus.below hw) hl);subst hA;clear hu hu0 hus hus0 hcell hr hr0 hn0 hk hc1 hs;by_cases h1:256<r.length
    ·have hr1:(256:Int)<(r.length:Int):=by omega
     have HR:Hid (kW M=5):=Lib.hid (by rw[HME.out,hE.out,HD.out,if_pos h1])
     go_wp2
     go_ret2;exact⟨hB,.inr ⟨by rw[HR.out];decide,by rw[HR.out];rfl⟩⟩
    ·have hr1:¬(256:Int)<(r.length:Int):=by omega
     by_cases h2:r.length=n
     ·subst h2
      have CV2:=Lib.hid (CV.out (by omega) wr hB);have hgl:=hT.out.own.lt
      have hck:=(hT.out.own.cell k).trans (show _=some jn by
       rw[QaH (by rw[Qar,hT.out.len (by omega)];exact Nat.le_refl _),Qar,hT.out.len (by omega),QbE,Qbk,if_pos (by omega)])
      have hfk:=hT.out.own.free k
      have hrn:r.length≤256:=by omega
      go_wp2_with fail
      refine CV2.out.mono ?_;rintro e w1 ⟨hB1,⟨hib,gn,rfl,hg,hO1⟩ | ⟨hib,rfl⟩⟩
      ·have hck1:=(hB1.cell (p:=⟨w.heap.size,k,none⟩) hgl).trans hck
       have hfk1:=(hB1.frozen (p:=⟨w.heap.size,k,none⟩) hgl).trans hfk;have HT2:=Lib.hid (hT.out.step Hr.out rfl (by omega) hB1 hg (Qap hB.size hg) hO1);have HE2:Hid (zj r.length M=zj r.length (M.drop (k+1))):=Lib.hid (by rw[hE.out,HD.out,if_neg h1,if_neg (by simp),if_pos hib]);have HB2:=Lib.hid ((hB.trans (hB1.mono hB.size)).setCell (p:=⟨w.heap.size,k,none⟩) (Nat.le_refl _) (.slice (some ⟨gn,0,none⟩) r.length r.length));clear hT hE hck hfk hib hO1
       go_wp2
       go_roundg gh
       case rel=>exact⟨k+1,R++[(gn,r.length,r)],by go_num,by have:=Hk.out;omega,HE2,HT2,HB2.out⟩
       case measure=>omega
      ·have hck1:=(hB1.cell (p:=⟨w.heap.size,k,none⟩) hgl).trans hck
       have hfk1:=(hB1.frozen (p:=⟨w.heap.size,k,none⟩) hgl).trans hfk;have HR:Hid (kW M=3):=Lib.hid (by rw[HME.out,hE.out,HD.out,if_neg h1,if_neg (by simp),if_neg hib]);have HB2:=Lib.hid ((hB.trans (hB1.mono hB.size)).setCell (p:=⟨w.heap.size,k,none⟩) (Nat.le_refl _) jn);clear hT hE hck hfk hib
       go_wp2
       go_ret2;exact⟨HB2.out,.inr ⟨by rw[HR.out];decide,by rw[HR.out];rfl⟩⟩
     ·have hr2:((r.length:Int) != (n:Int))=true:=by simp;omega
      have HR:Hid (kW M=2):=Lib.hid (by rw[HME.out,hE.out,HD.out,if_neg h1,if_pos h2])
      go_wp2
      go_ret2;exact⟨hB,.inr ⟨by rw[HR.out];decide,by rw[HR.out];rfl⟩⟩
theorem PF.of_prime {p:Int} (h:yX p) (h2:p≤999999999):PF p:=by
 refine⟨h.1,by omega,fun b h0 h1=> ?_⟩;have hb:(Int.gcd b p:Int)∣b:=Int.gcd_dvd_left ..;have hp:(Int.gcd b p:Int)∣p:=Int.gcd_dvd_right ..;have hpos:0<Int.gcd b p:=Int.gcd_pos_of_ne_zero_left _ (by omega);have hle:(Int.gcd b p:Int)≤b:=Int.le_of_dvd h0 hb;rcases Qae (Int.gcd b p) 2 with hl | hl
 ·omega
 ·exact absurd (Int.emod_eq_zero_of_dvd hp) (h.2 _ (by omega) (by omega))
theorem UB {T:Type} (R:List (jR T)) (k:Nat) (L L':List T):setRow (setRow R k L) k L'=setRow R k L':=by
 apply Qaw;intro j;by_cases hj:k=j
 ·subst hj
  cases hr:R[k]? with
  | none=>simp[setRow,hr]
  | some r=>rw[qG (qG hr L),qG hr]
 ·rw[xQ hj,xQ hj,xQ hj]
theorem BI (f:Int→Int) (L:List Int):qg f 0 L.length L=L.map f:=by
 unfold qg;apply Qaw;intro j;rw[Qaj,Qao];rcases Qae j L.length with h | h
 ·rw[Qaa h];simp[h]
 ·rw[Qah h];rfl
def KK (p:Int) (M:List (List Int)):List (List Int):=M.map fun r=>r.map (· %p)
def Ob (M:List (List Int)) (p:Int) (w:World) (e:Ending) (w':World):Prop:=
 Below w.heap.size w w'∧((kW M=0∧yX p∧p≤999999999 ∧ ∃(g:Nat) (R:List jS),e = .returned (.tuple #[.slice (some ⟨g,0,none⟩) M.length M.length,.int .i64 0])∧w.heap.size≤g∧(∀r∈R,w.heap.size≤r.1)∧kj w' g R ((M[0]?.map (·.length)).getD 0)∧R.map (·.2.2)=KK p M) ∨
  (kW M=0 ∧ ¬(yX p∧p≤999999999)∧e = .returned (.tuple #[jn,.int .i64 15]))∨(kW M≠0∧e = .returned (.tuple #[jn,.int .i64 (kW M)])))
structure Jr (p:Int) (n g:Nat) (R:List jS) (w wr:World) (Q:List jS):Prop where
 mx:kj wr g Q n
 new:∀r∈R,w.heap.size≤r.1
 blocks:Q.map (·.1)=R.map (·.1)
 below:Below w.heap.size w wr
theorem Jr.newQ {p:Int} {n g:Nat} {R Q:List jS} {w wr:World} (h:Jr p n g R w wr Q) {r:jS} (hr:r∈Q):w.heap.size≤r.1:=by
 have:r.1∈R.map (·.1):=by rw[←h.blocks];exact Qa1 hr
 obtain⟨q,hq,e⟩:=List.mem_map.1 this;rw[←e];exact h.new q hq
theorem Jr.put {p:Int} {n g:Nat} {R Q:List jS} {w wr:World} (h:Jr p n g R w wr Q) {k j:Nat} {r:jS} (hr:Q[k]? =some r) (x:Int):
  Jr p n g R w (wr.setCell ⟨r.1,j,none⟩ (.int .i64 x)) (setRow Q k (r.2.2.set j x)):=by
 have hm:=h.mx.row r (Qab hr);refine⟨h.mx.setRow hr (by rw[←x6];exact hm.1.put j _) (by rw[Qbz];exact hm.2.1) ((jk.refl r.1 wr).setCell ⟨r.1,j,none⟩ rfl _),h.new,by rw[Kd];exact h.blocks,h.below.setCell (h.newQ (Qab hr)) _⟩
theorem BK (f:Int→Int) (L:List Int) (j:Nat) (h:j<L.length):(qg f 0 j L).set j (f (L[j]?.getD 0))=qg f 0 (j+1) L:=by
 have:=ZK f 0 j L (by omega);simpa using this
theorem FT (v:Value) (M:List (List Int)) (p:Int) (w:World) (hv:zx w v M):
  Calls Tryz.prog 66 #[v,.int .i64 p] w (Ob M p w):=by
 have RR:=Lib.hid (FV v M w hv);have PR:=Lib.hid (fun W=>RL p W);clear hv;go_enter Tryz.func66,Tryz.ntmps66
 go_wp2_with fail
 refine RR.out.mono ?_;clear RR;rintro e w1 ⟨hB1,⟨hM,g,R,rfl,hg,hnew,hmx,hvals⟩ | ⟨hM,rfl⟩⟩
 ·have HM:=Lib.hid hM
  have HB1:=Lib.hid hB1;have HNew:=Lib.hid hnew;have HMX:=Lib.hid hmx;have HV:=Lib.hid hvals;have HRl:Hid (R.length=M.length):=Lib.hid (by rw[←hvals,Qar])
  have hM0:M.length≤256:=by
   unfold kW at hM;split at hM
   ·cases hM
   ·omega
  clear hM hB1 hnew hmx hvals;by_cases hr:0≤p∧p≤999999999
  ·have PR2:Hid (Calls Tryz.prog 111 #[.int .i64 p] w1 fun e w'=>(∃b:Bool,e = .returned (.tuple #[.bool b,.int .i64 0])∧(b=true↔yX p))∧w1=w'):=Lib.hid ((PR.out w1).mono fun e w' h=>by unfold Uh at h;rw[if_pos hr] at h;exact h)
   by_cases hp:yX p
   ·have HP:=Lib.hid hp
    have HPF:=Lib.hid (PF.of_prime hp hr.2)
    have hp1:1≤p:=by have:=hp.1;omega
    have hp2:=hr.2;clear PR hp hr
    go_wp2_with fail
    refine PR2.out.mono ?_;rintro e w2 ⟨⟨b,rfl,hb⟩,rfl⟩;have hbt:=hb.2 HP.out;subst hbt;clear hb PR2;generalize hne:(M[0]?.map (·.length)).getD 0=n at *;have HN:=Lib.hid hne;clear hne
    go_wp2_with fail
    go_loopg [35] M.length (fun gh i wr=>∃k:Nat,i = .int .i64 k∧k+gh=M.length∧Hid (Jr p n g R w wr (km (·.map (· %p)) R k)))
    case atStart=>exact⟨0,rfl,by omega,Lib.hid ⟨by rw[X8];exact HMX.out,HNew.out,by rw[X8],HB1.out⟩⟩
    case round=>
     obtain⟨k,rfl,hk,hT⟩:=hrel
     cases gk with
     | zero=>
      have hin:¬((k:Int)<(M.length:Int)):=by omega
      have hkR:k=R.length:=by have:=HRl.out;omega
      go_wp2
      go_ret2;have h:=hT.out;rw[hkR] at h;refine⟨h.below,.inl ⟨HM.out,HP.out,hp2,g,_,rfl,hg,fun r hr=>h.newQ hr,HN.out ▸ h.mx,?_⟩⟩;rw[ZL,Qcs,←HV.out];unfold KK;rw[Qcs];rfl
     | succ gh=>
      have hlt:k<M.length:=by omega
      have hlt':(k:Int)<(M.length:Int):=by omega
      obtain⟨r,hr⟩:∃r,R[k]? =some r:=⟨R[k]'(by rw[HRl.out];exact hlt),Qaa _⟩
      have hr':=(X6 (f:=(·.map (· %p))) (R:=R) k).trans hr;have hck:=hT.out.mx.cellRow hr';have hgl:=hT.out.mx.own.lt;obtain⟨_,hrl,hrc1,hrc2⟩:=hT.out.mx.row _ (Qab hr');have HT0:Hid (Jr p n g R w wr (setRow (km (·.map (· %p)) R k) k (qg (· %p) 0 0 r.2.2))):=Lib.hid (by rw[Gb,Yo hr'];exact hT.out);have Hst:Hid (setRow (km (·.map (· %p)) R k) k (qg (· %p) 0 n r.2.2)=km (·.map (· %p)) R (k+1)):=Lib.hid (by rw[←hrl,BI];exact ZM (f:=(·.map (· %p))) hr);have Hr:=Lib.hid hr';have Hk:=Lib.hid hk;have Hrl:=Lib.hid hrl;clear hr hr' hT hk hrl;obtain⟨kb,kc,kl⟩:=r;unfold qL at hck;dsimp only at hck hrc1 hrc2
      go_wp2_with fail
      go_loopg [41] n (fun gh2 ix wx=>∃j:Nat,ix = .int .i64 j∧j+gh2=n∧Hid (Jr p n g R w wx (setRow (km (·.map (· %p)) R k) k (qg (· %p) 0 j kl))))
      case atStart=>exact⟨0,rfl,by omega,HT0⟩
      case round=>
       clear HT0 hck hgl;obtain⟨j,rfl,hj,hTx⟩:=hrel
       cases gk with
       | zero=>
        have hin2:¬((j:Int)<(n:Int)):=by omega
        have hjn:j=n:=by omega
        have HQ:=Lib.hid hTx.out;rw[hjn,Hst.out] at HQ;clear hjn hTx hj
        go_wp2
        go_roundg gh
        case rel=>exact⟨k+1,by go_num,by have:=Hk.out;omega,HQ⟩
        case measure=>omega
       | succ gh2=>
        have hjl:j<n:=by omega
        have hjl':(j:Int)<(n:Int):=by omega
        have hrow:=qG Hr.out (qg (· %p) 0 j kl);have c1:=hTx.out.mx.cellNum hrow hjl;have f1:=(hTx.out.mx.row _ (Qab hrow)).1.free j;have hbl:=(hTx.out.mx.row _ (Qab hrow)).1.lt
        have hat:(qg (· %p) 0 j kl)[j]? =kl[j]? :=by have:=ZI (· %p) 0 j kl;simpa using this
        have Hs:=Lib.hid (BK (· %p) kl j (by have:=Hrl.out;omega));dsimp only at c1 f1 hbl;rw[hat] at c1;have HP2:=Lib.hid (hTx.out.put (j:=j) hrow (kl[j]?.getD 0%p));rw[UB] at HP2;dsimp only at HP2;rw[Hs.out] at HP2;have Hj:=Lib.hid hj;clear hrow hat Hs hTx hj;generalize kl[j]?.getD 0=x at *
        go_wp2_with (go_at_call 99;refine(QS _ _ _ hp1 (by omega)).mono ?_;rintro e w' ⟨rfl,rfl⟩)
        go_roundg gh2
        case rel=>exact⟨j+1,by go_num,by have:=Hj.out;omega,HP2⟩
        case measure=>omega
   ·have HP:=Lib.hid hp
    clear PR hp hr
    go_wp2_with fail
    refine PR2.out.mono ?_;rintro e w2 ⟨⟨b,rfl,hb⟩,rfl⟩
    have hbt:b=false:=by
     cases b with
     | false=>rfl
     | true=>exact absurd (hb.1 rfl) HP.out
    subst hbt;clear hb PR2
    go_wp2
    go_ret2;exact⟨HB1.out,.inr (.inl ⟨HM.out,fun h=>HP.out h.1,rfl⟩)⟩
  ·have PR2:Hid (Calls Tryz.prog 111 #[.int .i64 p] w1 fun e w'=>e = .returned (.tuple #[.bool false,.int .i64 3])∧w1=w'):=Lib.hid ((PR.out w1).mono fun e w' h=>by unfold Uh at h;rw[if_neg hr] at h;exact h)
   have HR:=Lib.hid hr;clear PR hr
   go_wp2_with fail
   refine PR2.out.mono ?_;rintro e w2 ⟨rfl,rfl⟩;clear PR2
   go_wp2
   go_ret2;exact⟨HB1.out,.inr (.inl ⟨HM.out,fun h=>HR.out ⟨by have:=h.1.1;omega,h.2⟩,rfl⟩)⟩
 ·have HM:=Lib.hid hM
  have HB1:=Lib.hid hB1
  have hb:(kW M != 0)=true:=by simpa using hM
  clear hM hB1
  obtain⟨E,hE⟩:∃E,E=kW M:=⟨_,rfl⟩
  have HE:=Lib.hid hE;rw[←hE] at hb ⊢;clear hE PR
  go_wp2
  go_ret2;exact⟨HB1.out,.inr (.inr ⟨HM.out,by rw[HE.out];rfl⟩)⟩
def y8 (w:World) (base:Nat) (v:Value) (B:List (Nat×List Int)):Prop:=
 w.ownsRow base 41 1 v B.length (B.map fun r=>Value.slice (some ⟨r.1,0,none⟩) r.2.length r.2.length) ∧ ∀r∈B,base≤r.1∧ja w r.1 3 (je r.2)∧r.2.length≤1000000
theorem y8.below {w w':World} {base:Nat} {v:Value} {B:List (Nat×List Int)} (h:y8 w base v B) (hb:Below w.heap.size w w'):y8 w' base v B:=
 ⟨kD h.1 hb,fun r hr=>⟨(h.2 r hr).1,(h.2 r hr).2.1.below hb (h.2 r hr).2.1.lt,(h.2 r hr).2.2⟩⟩
theorem y8.snoc {w w':World} {base:Nat} {v v':Value} {B:List (Nat×List Int)} {gl:Nat} {L:List Int} (h:y8 w base v B) (hg:w.grownBy w' v.ownBlock) (hown:w'.ownsRow base 41 1 v' (B.length+1) (B.map (fun r=>Value.slice (some ⟨r.1,0,none⟩) r.2.length r.2.length)++[.slice (some ⟨gl,0,none⟩) L.length L.length]))
  (hO:ja w gl 3 (je L)) (hgl:base≤gl) (hl:L.length≤1000000):y8 w' base v' (B++[(gl,L)]):=by
 have hne:∀k cs,ja w k 3 cs→v.ownBlock≠some k:=by
  intro k cs hk e
  rcases h.1.2 with ⟨rfl,_⟩ | ⟨g,cap,cur,rfl,_,hg',_⟩
  ·simp[Value.ownBlock] at e
  ·simp[Value.ownBlock] at e
   subst e;unfold ja at hk;rw[hg'] at hk
   injection hk with hk
   injection hk with _ hk
   exact absurd hk (by decide)
 refine⟨by rw[QaQ,Qaf];exact hown,fun r hr=> ?_⟩;rcases List.mem_append.1 hr with hr | hr
 ·have:=h.2 r hr
  exact⟨this.1,this.2.1.grown hg (hne _ _ this.2.1),this.2.2⟩
 ·obtain rfl:=List.mem_singleton.1 hr
  exact⟨hgl,hO.grown hg (hne gl _ hO),hl⟩
theorem x9 {w:World} {base:Nat} {e:TypeId} {v:Value} {n:Nat} {xs:List Value} (h:w.ownsRow base e 1 v n xs) (hn:n≤140737488355328):jD w v xs:=by
 obtain⟨A,c,rfl,hc,hm⟩:=jX h
 have hl:xs.length=n:=by have:=h.1;omega
 refine⟨A,c,by rw[hl],by omega,by omega,fun h0=> ?_⟩;obtain⟨g,rfl,_,hlt,hcell⟩:=Jf h (j:=0) (by omega);exact⟨g,0,rfl,hlt,fun j hj=>by rw[Qbi];exact hcell j (by omega)⟩
def qW (w:World) (v:Value) (M:List (List Int)):Prop:=
 ∃vs:List Value,jD w v vs∧vs.length=M.length ∧ ∀(i:Nat) (r:List Int),M[i]? =some r → ∃u,vs[i]? =some u∧jD w u (je r)
theorem qW.below {w w':World} {v:Value} {M:List (List Int)} (h:qW w v M) (hb:Below w.heap.size w w'):qW w' v M:=by
 obtain⟨vs,h1,h2,h3⟩:=h;exact⟨vs,h1.below hb,h2,fun i r hr=>by obtain⟨u,hu,hs⟩:=h3 i r hr;exact⟨u,hu,hs.below hb⟩⟩
theorem y8.tblW {w:World} {base:Nat} {v:Value} {B:List (Nat×List Int)} (h:y8 w base v B) (hl:B.length≤140737488355328):qW w v (B.map (·.2)):=by
 refine⟨_,x9 h.1 hl,by simp,fun i r hr=> ?_⟩;rw[Qao] at hr
 cases hb:B[i]? with
 | none=>rw[hb] at hr;cases hr
 | some x=>
  rw[hb] at hr;obtain rfl:=QaE hr;have:=h.2 x (Qab hb);exact⟨_,by rw[Qao,hb];rfl,(this.2.1.sl _ (by rw[ku]) (by omega)).wide⟩
theorem Wv:(Tryz.prog.info? 41).map (fun i=>(i.zero,i.size,i.bytes))=some (some (.slice none 0 0),1,24):=by kernel_rfl
def Bg (M:List (List Int)) (p:Int) (w:World) (e:Ending) (w':World):Prop:=
 Below w.heap.size w w'∧((kW M=0∧yX p∧p≤999999999 ∧ ∃(R:List jS) (v:Value) (B:List (Nat×List Int)),e = .returned (.tuple #[v,.int .i64 0])∧R.map (·.2.2)=KK p M∧y8 w' w.heap.size v B∧B.length≤256 ∧
   B.map (·.2)=nsBasis (jE p) 0 1 ((M[0]?.map (·.length)).getD 0) (jy (jE p) ((M[0]?.map (·.length)).getD 0) R.length 0 ⟨km List.reverse R R.length,[],[],false⟩) ((M[0]?.map (·.length)).getD 0)) ∨
  (kW M=0 ∧ ¬(yX p∧p≤999999999)∧e = .returned (.tuple #[jn,.int .i64 15]))∨(kW M≠0∧e = .returned (.tuple #[jn,.int .i64 (kW M)])))
theorem Z0 {T:Type} (F:Fd T) (zero one:T) (n:Nat) (S:jw T) (k:Nat):(nsBasis F zero one n S k).length≤k:=by
 induction k with
 | zero=>simp[nsBasis]
 | succ k ih=>unfold nsBasis;rw[Qaf];split <;> simp <;> omega
theorem Oi {n0:Nat} {M:List (List Int)} (h:zj n0 M=0):∀r∈M,r.length≤256∧r.length=n0∧yW r:=by
 induction M with
 | nil=>simp
 | cons a t ih=>
  unfold zj at h;split at h
  ·cases h
  ·split at h
   ·cases h
   ·split at h
    ·intro r hr
     rcases List.mem_cons.1 hr with rfl | hr
     ·rename_i h1 h2 h3;exact⟨by omega,by simpa using h2,h3⟩
     ·exact ih h r hr
    ·cases h
theorem ZO {M:List (List Int)} (h:kW M=0):M.length≤256∧((M[0]?.map (·.length)).getD 0)≤256 ∧ ∀r∈M,r.length=(M[0]?.map (·.length)).getD 0∧yW r:=by
 unfold kW at h;split at h
 ·cases h
 ·have hr:=Oi h
  refine⟨by omega,?_,fun r h=>⟨(hr r h).2.1,(hr r h).2.2⟩⟩
  cases M with
  | nil=>simp
  | cons a t=>have:=hr a (by simp);simpa using this.1
theorem RQ (v:Value) (M:List (List Int)) (p:Int) (w:World) (hv:zx w v M):
  Calls Tryz.prog 26 #[v,.int .i64 p] w (Bg M p w):=by
 have RM:=Lib.hid (FT v M p w hv);clear hv;obtain⟨i0,hi0,hz0,hz1,hz2⟩:=info_parts Wv;go_enter Tryz.func26,Tryz.ntmps26
 go_wp2_with fail
 refine RM.out.mono ?_;clear RM;rintro e w1 ⟨hB1,⟨hM,hp,hp2,g,R,rfl,hg,hnew,hmx,hvals⟩ | ⟨hM,hp,rfl⟩ | ⟨hM,rfl⟩⟩
 ·have HMO:=Lib.hid (ZO hM)
  have HRl:Hid (R.length=M.length):=Lib.hid (by have:=congrArg List.length hvals;simpa [KK] using this);have hn1:=(ZO hM).2.1;have hm1:=(ZO hM).1;generalize hne:(M[0]?.map (·.length)).getD 0=n at *;have HN:=Lib.hid hne
  have NS:Hid (Calls Tryz.prog 67 #[.iface 117 (.agg #[.int .i64 p]),.slice (some ⟨g,0,none⟩) M.length M.length] w1 (GF p n g R w1)):=Lib.hid (by
   have hI:yg p R:=by
    intro r hr x hx
    have:r.2.2∈KK p M:=by rw[←hvals];exact Qa1 hr
    obtain⟨q,_,hq⟩:=List.mem_map.1 this;rw[←hq] at hx;obtain⟨y,_,rfl⟩:=List.mem_map.1 hx;have:=hp.1;exact⟨Qb7 _ (by omega),QbS _ (by omega)⟩
   have h:=Cy p g M.length n R w1 hmx (by rw[HRl.out];exact Nat.le_refl _) (by omega) (by omega) (PF.of_prime hp hp2) hI (fun e=>by
    have:M=[]:=List.length_eq_zero_iff.1 (by rw[←HRl.out,e];rfl)
    rw[←hne,this];rfl)
   rw[HRl.out] at h
   exact h)
  have HP:=Lib.hid (And.intro hp hp2);have HM:=Lib.hid hM;have HB1:=Lib.hid hB1;have HV:=Lib.hid hvals
  have HNew:Hid (∀k∈g::R.map (·.1),w.heap.size≤k):=Lib.hid (by
   intro k hk;rcases List.mem_cons.1 hk with rfl | hk
   ·exact hg
   ·obtain⟨r,hr,rfl⟩:=List.mem_map.1 hk
    exact hnew r hr)
  clear hM hB1 hvals hnew hg hmx hp hp2 hne
  go_wp2_with fail
  refine NS.out.mono ?_;clear NS;rintro e w2 ⟨bv,B,rfl,hBe,hT,hbs⟩;have HB2:Hid (Below w.heap.size w w2):=Lib.hid (HB1.out.trans ⟨hbs.os,hbs.tape,hbs.output,hbs.size,fun k hk=>hbs.block k (Qac hk HB1.out.size) (fun hc=>by have:=HNew.out k hc;omega)⟩);have HBe:=Lib.hid hBe
  have hBl:B.length≤n:=by
   have h1:=congrArg List.length hBe;rw[Qar] at h1;rw[h1];exact Z0 ..
  have HT:=Lib.hid hT;obtain⟨A1,k1,rfl,hk1,hk2⟩:=jX hT.1;clear hBe hT hbs HNew HB1
  go_wp2_with fail
  go_loopg [8,29] B.length (fun gh bs i wr=>∃(k:Nat) (C:List (Nat×List Int)),i = .int .i64 k∧k+gh=B.length∧Hid (C.map (·.2)=(B.map (·.2)).take k)∧Hid (y8 wr w2.heap.size bs C)∧Hid (Below w2.heap.size w2 wr))
  case atStart=>exact⟨0,[],rfl,by omega,Lib.hid rfl,Lib.hid ⟨World.ownsRow_nil _ _ _ _,by simp⟩,Lib.hid (Below.refl _ _)⟩
  case round=>
   obtain⟨k,C,rfl,hk,hC,hO,hW⟩:=hrel
   have hCl:C.length=k:=by
    have h1:=congrArg List.length hC.out;simp at h1;omega
   cases gk with
   | zero=>
    have hin:¬((k:Int)<(B.length:Int)):=by omega
    have hkB:k=B.length:=by omega
    have HCe:Hid (C.map (·.2)=B.map (·.2)):=Lib.hid (by rw[hC.out,Qad (by rw[Qar];omega)]);have HT2:Hid (y8 wr w.heap.size u8 C):=Lib.hid ⟨zJ hO.out.1 HB2.out.size,fun r hr=>⟨Qap HB2.out.size (hO.out.2 r hr).1,(hO.out.2 r hr).2⟩⟩;have HBt:=Lib.hid (HB2.out.trans (hW.out.mono HB2.out.size));clear hkB hC hO hW
    go_wp2
    go_ret2;exact⟨HBt.out,.inl ⟨HM.out,HP.out.1,HP.out.2,R,_,C,rfl,HV.out,HT2.out,by omega,by rw[HCe.out,HBe.out,HN.out]⟩⟩
   | succ gh=>
    have hlt:k<B.length:=by omega
    have hlt':(k:Int)<(B.length:Int):=by omega
    obtain⟨q,hq⟩:∃q,B[k]? =some q:=⟨B[k],Qaa hlt⟩
    obtain⟨gB,hA,_,hgBl,hcell⟩:=Jf HT.out.1 (j:=k) hlt;have hck:wr.cell? ⟨gB,k,none⟩=some (.slice (some ⟨q.1,0,none⟩) n n):=(hW.out.cell (p:=⟨gB,k,none⟩) hgBl).trans ((hcell k hlt).trans (by rw[Qao,hq];rfl));obtain⟨_,hqo,hql⟩:=HT.out.2 q (Qab hq);have HqO:=Lib.hid (hqo.below hW.out hqo.lt);have Hq:Hid ((B.map (·.2)).take (k+1)=(B.map (·.2)).take k++[q.2]):=Lib.hid (by rw[Qa5,Qao,hq];rfl);have Hk:=Lib.hid hk;have hs2:w2.heap.size≤wr.heap.size:=hW.out.size;subst hA;clear hcell hqo hq hk;obtain⟨bk,L⟩:=q;dsimp only at hck hql HqO Hq;have hmk:=J7 wr n (by omega)
    have HO0:Hid (ja (wr.alloc (.cells (je (List.replicate n 0)).toArray 3)) wr.heap.size 3 (je (xC L 0))):=Lib.hid (by
     rw[Hw,hql];exact ja.make _ _ _)
    have Hql:=Lib.hid hql;clear hql
    go_wp2_with fail
    obtain⟨wb,rfl⟩:∃wb,wb=wr:=⟨_,rfl⟩
    go_loopg [38] n (fun gh2 ix wx=>∃j:Nat,ix = .int .i64 j∧j+gh2=n∧Hid (ja wx wb.heap.size 3 (je (xC L j)))∧Hid (Below wb.heap.size wb wx))
    case atStart=>exact⟨0,rfl,by omega,HO0,Lib.hid ((Below.refl _ _).alloc (Nat.le_refl _) _)⟩
    case round=>
     clear HO0 hmk hck;obtain⟨j,rfl,hj,hOx,hBx⟩:=hrel
     cases gk with
     | zero=>
      have hin2:¬((j:Int)<(n:Int)):=by omega
      have HL2:Hid (ja wr wb.heap.size 3 (je L)):=Lib.hid (by
       have:j=L.length:=by have:=Hql.out;omega
       have h:=hOx.out
       rwa [this,G8] at h)
      have HO2:=Lib.hid (hO.out.below hBx.out);obtain⟨A9,k9,hbv,_,_⟩:=jX HO2.out.1;have hs3:=hBx.out.size;have Hj:=Lib.hid hj
      have hk7:C.length+1≤1000:=by have:=Hk.out;omega
      subst hbv;clear hO hOx hj
      go_wp2_with (at_builtin;(refine wpList_append_own _ rfl _ _ 42 rfl w2.heap.size 41 i0 (.slice none 0 0) 1 24 Tryz.underlying42 hi0 hz0 hz1 hz2 rfl (by decide) _ _ _ rfl (HO2.out.1.alloc _) ⟨wr.heap.size,0,none⟩ 1 1 [.slice (some ⟨wb.heap.size,0,none⟩) n n] rfl rfl (cell_one_new _ _ _) (fun x hx=>by simp at hx;subst hx;rfl) (by unfold maxLen;omega) (by omega) (by simp;omega) ?_;intro v7 w7 hown7 hgrow7 _))
      have hal:Below wr.heap.size wr (wr.alloc (.cells #[.slice (some ⟨wb.heap.size,0,none⟩) n n] 41)):=(Below.refl _ _).alloc (Nat.le_refl _) _;have HT7:=Lib.hid ((HO2.out.below hal).snoc (L:=L) hgrow7 (by rw[Hql.out];exact hown7) (HL2.out.below hal HL2.out.lt) hs2 (by rw[Hql.out];omega));have HW7:Hid (Below w2.heap.size w2 w7):=Lib.hid (Below.grown (((hW.out.trans (hBx.out.mono hs2))).alloc (by omega) _) hgrow7 (by simp;omega) (fun j hj=>(HO2.out.1.lt j hj).1))
      go_roundg gh
      case rel=>exact⟨k+1,C++[(wb.heap.size,L)],by go_num,by have:=Hk.out;omega,Lib.hid (by rw[QaQ,hC.out,Hq.out];rfl),HT7,HW7⟩
      case measure=>omega
     | succ gh2=>
      have hjl:j<n:=by omega
      have hjl':(j:Int)<(n:Int):=by omega
      have hjL:j<L.length:=by have:=Hql.out;omega
      have c1:wr.cell? ⟨bk,j,none⟩=some (.int .i64 (L[j]?.getD 0)):=(hBx.out.cell (p:=⟨bk,j,none⟩) HqO.out.lt).trans ((HqO.out.cell j).trans (kz L j hjL));have c2:=(hOx.out.cell j).trans (kz _ j (by rw[G9 L j (by omega)];omega));have f2:=hOx.out.free j;have hbl:=HqO.out.lt;have hs3:=hBx.out.size;have Hs:=Lib.hid (Ha L j hjL);have HO3:Hid (∀x,L[j]?.getD 0=x→ja (wr.setCell ⟨wb.heap.size,j,none⟩ (.int .i64 x)) wb.heap.size 3 (je (xC L (j+1)))):=Lib.hid (fun x hx=>by rw[←Hs.out,hx,←x6];exact hOx.out.put _ _);have Hj:=Lib.hid hj;clear hOx hj Hs;generalize hx:L[j]?.getD 0=x at *;have HO4:=Lib.hid (HO3.out x rfl);have HB4:=Lib.hid (hBx.out.setCell (p:=⟨wb.heap.size,j,none⟩) (Nat.le_refl _) (.int .i64 x));clear HO3 hx;generalize (xC L j)[j]?.getD 0=y at *
      go_wp2
      go_roundg gh2
      case rel=>exact⟨j+1,by go_num,by have:=Hj.out;omega,HO4,HB4⟩
      case measure=>omega
 ·have HM:=Lib.hid hM
  have HP:=Lib.hid hp;have HB1:=Lib.hid hB1;clear hM hp hB1
  go_wp2
  go_ret2;exact⟨HB1.out,.inr (.inl ⟨HM.out,HP.out,rfl⟩)⟩
 ·have HM:=Lib.hid hM
  have HB1:=Lib.hid hB1
  have hb:(kW M != 0)=true:=by simpa using hM
  clear hM hB1
  obtain⟨E,hE⟩:∃E,E=kW M:=⟨_,rfl⟩
  have HE:=Lib.hid hE;rw[←hE] at hb ⊢;clear hE
  go_wp2
  go_ret2;exact⟨HB1.out,.inr (.inr ⟨HM.out,by rw[HE.out];rfl⟩)⟩
def Us (w:World) (t:TypeId) (g K cap:Nat) (cs:List Value):Prop:=cs.length=K∧K≤cap∧cap≤maxLen ∧ ∃cur:Array Value,w.heap[g]? =some (.cells cur t (0,0))∧cur.toList.take K=cs
section
variable {w w':World} {t s:TypeId} {g h K cap J cap2:Nat} {cs ds:List Value}
theorem Us.of_owns {base:Nat} {v:Value} (h:w.ownsRow base t 1 v K cs) (hK:0<K):∃g cap,v = .slice (some ⟨g,0,none⟩) K cap∧base≤g∧Us w t g K cap cs:=by
 obtain⟨h1,⟨rfl,h2⟩ | ⟨g,cap,cur,rfl,h2,h3,h4,h5,h6,h7⟩⟩:=h
 ·omega
 ·exact⟨g,cap,rfl,h2,by omega,h4,h5,cur,h3,by rw[Qbr] at h7;exact h7⟩
theorem Us.lt (h:Us w t g K cap cs):g<w.heap.size:=by
 obtain⟨_,_,_,cur,h1,_⟩:=h;exact(Array.getElem?_eq_some_iff.1 h1).1
theorem Us.cell (h:Us w t g K cap cs) {i:Nat} (hi:i<K):w.cell? ⟨g,i,none⟩=cs[i]? :=by
 obtain⟨_,_,_,cur,h1,rfl⟩:=h;rw[cell_of_row w g i cur t (0,0) h1,QbQ hi];simp
theorem Us.free (h:Us w t g K cap cs) (i:Nat):w.frozen? ⟨g,i,none⟩=false:=by
 obtain⟨_,_,_,cur,h1,_⟩:=h;simp[World.frozen?,h1]
theorem Us.put (h:Us w t g K cap cs) (i:Nat) (u:Value):Us (w.setCell ⟨g,i,none⟩ u) t g K cap (cs.set i u):=by
 obtain⟨h0,h2,h3,cur,h1,rfl⟩:=h;refine⟨by simpa using h0,h2,h3,cur.setIfInBounds i u,?_,?_⟩
 ·simp[World.setCell,Array.getElem?_modify,h1]
 ·simp[List.take_set]
theorem Us.keep (h:Us w t g K cap cs) (hk:w'.heap[g]? =w.heap[g]?):Us w' t g K cap cs:=by
 obtain⟨h0,h2,h3,cur,h1,h4⟩:=h;exact⟨h0,h2,h3,cur,hk.trans h1,h4⟩
theorem Us.other (h:Us w t g K cap cs) {p:Addr} (hp:g≠p.block) (u:Value):Us (w.setCell p u) t g K cap cs:=h.keep (Below.heap_setCell w p u g hp)
theorem Us.apart (a:Us w s g K cap cs) (b:Us w t h J cap2 ds) (hst:s≠t):g≠h:=by
 intro e;subst e;obtain⟨_,_,_,cur,h1,_⟩:=a;obtain⟨_,_,_,cur2,h2,_⟩:=b;rw[h1] at h2
 injection h2 with h2
 injection h2 with _ h2
 exact hst h2
theorem Us.slW (h:Us w t g K cap cs) {k:Nat} (hk:k≤K) (hK:K≤140737488355328):jD w (.slice (some ⟨g,0,none⟩) k cap) (cs.take k):=by
 have hl:=h.lt;have h0:=h.1;refine⟨some ⟨g,0,none⟩,cap,by rw[Qak,h0,QaJ hk],by rw[Qak,h0];have:=h.2.1;omega,by rw[Qak];omega,fun hn=>⟨g,0,rfl,hl,fun j hj=> ?_⟩⟩;rw[Qak,h0,QaJ hk] at hj;rw[Qbi,h.cell (by omega),QbQ hj]
end
section
variable {w w':World} {g cg n:Nat} {R:List jS}
end
section
variable {w w':World} {base n:Nat} {v:Value} {vs:List Value} {Ls:List (List Int)}
end
end Go.Proofs.YteagkgagdelklaaGreatDoor
namespace Go.Proofs.YteagkgagdelklaaGreatDoor
open Go.RowKit Go.Lib
theorem Zl {α:Type} [DecidableEq α] {p q:List α} {k:Nat} (hk:k<p.length) (hl:p.length=q.length) (h:(decide (p.drop k=q.drop k))=decide (p=q)) (he:p[k]? =q[k]?):decide (p.drop (k+1)=q.drop (k+1))=decide (p=q):=by
 have hq:k<q.length:=by omega
 rw[Qaa hk,Qaa hq] at he;have he:=QaE he;have e1:p.drop k=p[k]::p.drop (k+1):=QaF hk;have e2:q.drop k=q[k]::q.drop (k+1):=QaF hq;rw[←h,e1,e2,he];exact decide_eq_decide.mpr ⟨fun h=>by rw[h],fun h=>(List.cons.inj h).2⟩
theorem Zk {α:Type} [DecidableEq α] {p q:List α} {k:Nat} (he:p[k]? ≠q[k]?):decide (p=q)=false:=by
 simp only[decide_eq_false_iff_not];intro h;subst h;exact he rfl
theorem LS (v u:Value) (P Q:List (List Int)) (w:World) (hv:qW w v P) (hu:qW w u Q):
  Calls Tryz.prog 27 #[v,u] w fun e w'=>e = .returned (.bool (decide (P=Q)))∧Below w.heap.size w w':=by
 obtain⟨vs,hvs,hvl,hvr⟩:=hv;obtain⟨us,hus,hul,hur⟩:=hu;obtain⟨A,c,rfl,hc1,hc2⟩:=hvs.form;obtain⟨B,d,rfl,gc1,gc2⟩:=hus.form;rw[hvl] at hvs hc1 hc2;rw[hul] at hus gc1 gc2
 obtain⟨r,hr⟩:∃r,decide (P=Q)=r:=⟨_,rfl⟩
 have HR:=hid hr;rw[hr,hvl,hul];by_cases hl:P.length=Q.length
 ·have hb:((P.length:Int) != (Q.length:Int))=false:=by rw[hl];simp
  have HL:=hid hl;have HVR:=hid hvr;have HUR:=hid hur;clear hr hl hvr hur;go_enter Tryz.func27,Tryz.ntmps27
  go_wp2_with fail
  go_loopg [5] P.length (fun g i wr=>∃(k:Nat),k+g=P.length∧i = .int .i64 k∧Hid (decide (P.drop k=Q.drop k)=decide (P=Q))∧Below w.heap.size w wr)
  case atStart=>exact⟨0,by omega,rfl,hid rfl,Below.refl _ _⟩
  case round=>
   obtain⟨k,hk,rfl,hD,hB⟩:=hrel
   cases gk with
   | zero=>
    have hin:¬((k:Int)<(P.length:Int)):=by omega
    have HT:Hid (r=true):=hid (by
     rw[←HR.out,←hD.out,Qa4 (by omega),Qa4 (by have:=HL.out;omega)];rfl)
    clear hk
    go_wp2
    go_ret;exact⟨by rw[HT.out];rfl,hB⟩
   | succ g=>
    have hlt:k<P.length:=by omega
    have hlq:k<Q.length:=by have:=HL.out;omega
    obtain⟨v1,hv1,hs1⟩:=HVR.out k _ (Qaa hlt);obtain⟨u1,hu1,ht1⟩:=HUR.out k _ (Qaa hlq);obtain⟨b1,off1,rfl,hbb1,hcell1⟩:=hvs.at_ (k:=k) (by rw[hvl];omega);obtain⟨b2,off2,rfl,hbb2,hcell2⟩:=hus.at_ (k:=k) (by rw[hul];omega);have hck1:=(hB.cell (p:=⟨b1,off1+k,none⟩) hbb1).trans ((hcell1 k (by rw[hvl];omega)).trans hv1);have hck2:=(hB.cell (p:=⟨b2,off2+k,none⟩) hbb2).trans ((hcell2 k (by rw[hul];omega)).trans hu1);have Hstep:=hid (fun he=>Zl hlt HL.out hD.out he);have Hdiff:=hid (fun he=>Zk (p:=P) (q:=Q) (k:=k) he);rw[Qaa hlt,Qaa hlq] at Hstep Hdiff;have Hk:=hid hk;have hbl1:=Qac hbb1 hB.size;have hbl2:=Qac hbb2 hB.size;have SI:=hid (fun (W:World) (hb:Below wr.heap.size wr W)=>Mw v1 u1 P[k] Q[k] W ((hs1.below hB).below hb) ((ht1.below hB).below hb))
    have KS:Hid (∀z,Below wr.heap.size wr z→z.cell? ⟨b1,off1+k,none⟩=some v1∧z.cell? ⟨b2,off2+k,none⟩=some u1∧Below wr.heap.size wr z):=hid (fun z hb=>
     ⟨(hb.cell (p:=⟨b1,off1+k,none⟩) hbl1).trans hck1,(hb.cell (p:=⟨b2,off2+k,none⟩) hbl2).trans hck2,hb⟩)
    have KT:=hid (fun (x x':World) (hb:Below x.heap.size x x') (h5:Below wr.heap.size wr x)=>KS.out x' (h5.trans (hb.mono h5.size)));have HB:=hid hB;clear hcell1 hcell2 hvs hus hk hs1 ht1 hv1 hu1 hB hD;generalize P[k]=x at *;generalize Q[k]=y at *
    obtain⟨bb,hbb⟩:∃bb,decide (x=y)=bb:=⟨_,rfl⟩
    rw[hbb] at SI
    cases bb with
    | true=>
     have Hs:=hid (Hstep.out (by rw[QaL hbb]));clear hbb Hstep Hdiff
     go_wp2
     go_region_held3 (fun z=>z.cell? ⟨b1,off1+k,none⟩=some v1∧z.cell? ⟨b2,off2+k,none⟩=some u1∧Below wr.heap.size wr z)
      (first | exact KS.out _ (Below.refl _ _).drew | exact KT.out _ _ (by assumption) (by assumption))
      (first | (go_at_call 28;go_split_ands;refine(SI.out _ (by assumption)).mono ?_;rintro e4 w4 ⟨rfl,hB4⟩))
     have hB':Below w.heap.size w w4:=by go_split_ands;exact HB.out.trans (by rename_i h;exact h.mono HB.out.size)
     go_wp2
     go_roundg g
     case rel=>exact⟨k+1,by have:=Hk.out;omega,by go_num,Hs,hB'⟩
     case measure=>omega
    | false=>
     have Hs:=hid (Hdiff.out (fun h=>of_decide_eq_false hbb (QaE h)));clear hbb Hstep Hdiff;have HF:Hid (r=false):=hid (by rw[←HR.out];exact Hs.out)
     go_wp2
     go_region_held3 (fun z=>z.cell? ⟨b1,off1+k,none⟩=some v1∧z.cell? ⟨b2,off2+k,none⟩=some u1∧Below wr.heap.size wr z)
      (first | exact KS.out _ (Below.refl _ _).drew | exact KT.out _ _ (by assumption) (by assumption))
      (first | (go_at_call 28;go_split_ands;refine(SI.out _ (by assumption)).mono ?_;rintro e4 w4 ⟨rfl,hB4⟩))
     have hB':Below w.heap.size w w4:=by go_split_ands;exact HB.out.trans (by rename_i h;exact h.mono HB.out.size)
     go_wp2
     go_ret;exact⟨by rw[HF.out];rfl,hB'⟩
 ·have hb:((P.length:Int) != (Q.length:Int))=true:=by simpa using (by omega:¬(P.length:Int)=Q.length)
  have hne:P≠Q:=by intro h;subst h;exact hl rfl
  have HF:Hid (r=false):=hid (by rw[←hr];simpa using hne);clear hr hne hl;go_enter Tryz.func27,Tryz.ntmps27
  go_wp2
  go_ret;exact⟨by rw[HF.out];rfl,Below.refl _ _⟩
