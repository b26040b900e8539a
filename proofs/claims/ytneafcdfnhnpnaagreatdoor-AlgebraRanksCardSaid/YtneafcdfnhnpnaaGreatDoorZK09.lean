/- Contracts: the library's slices over int64: Repeat; filled. -/
import Derived.Laws.CopyOwn
import Derived.Test.YtneafcdfnhnpnaaGreatDoorZK08
set_option maxRecDepth 100000
set_option maxHeartbeats 4000000
namespace Go.Proofs.YtneafcdfnhnpnaaGreatDoor
open Go.RowKit
def kJ (x:Int) (n k:Nat):List Value:=List.replicate k (Value.int .i64 x)++List.replicate (n-k) (Value.int .i64 0)
theorem Vf (x:Int) {n k:Nat} (h:k≤n):(kJ x n k).length=n:=by simp[kJ];omega
theorem Vg (x:Int) {n k m:Nat} (h:k+m≤n):splice (kJ x n k) k (List.replicate m (Value.int .i64 x))=kJ x n (k+m):=by
 unfold splice kJ;rw[List.take_left' (by simp),List.length_replicate,List.drop_append,List.length_replicate,List.drop_of_length_le (by simp),List.nil_append,List.drop_replicate,←List.append_assoc,List.replicate_append_replicate]
 congr 2
 omega
theorem Tf (x:Int) {n k j:Nat} (h:j<k):(kJ x n k)[j]? =some (Value.int .i64 x):=by
 unfold kJ;rw[List.getElem?_append_left (by simpa using h)];simp[h]
theorem V0 (n:Nat) (w:World) (hn:n≤1000000):Calls Tryz.prog 251 #[.int .u64 1,.int .u64 (n:Int)] w fun e w'=>e = .returned (.tuple #[.int .u64 0,.int .u64 (n:Int)])∧w=w':=by
 refine(Tryz.bits_Mul 1 n (by omega) (by omega) w).mono fun e w' ⟨h1,h2⟩=>⟨?_,h2.symm⟩
 have e1:1*n/18446744073709551616=0:=by omega
 have e2:1*n%18446744073709551616=n:=by omega
 rw[h1,e1,e2];rfl
theorem T6:(Tryz.prog.info? 2).map (fun i=>(i.zero,i.size,i.bytes))=some (some (.int .i64 0),1,8):=by kernel_rfl
theorem VM (w:World) (n:Nat) (hn:n≤17592186044416):(Instr.makeSlice 192 (.int .i64 (n:Int)) (.int .i64 (n:Int))).run Tryz.prog w = .ok (.slice (some ⟨w.heap.size,0,none⟩) n n) (w.alloc (.cells (kJ 0 n 0).toArray 2)):=by
 have:=run_make_row' (P:=Tryz.prog) 192 2 (.int .i64 0) 8 Tryz.underlying192 T6 rfl .i64 .i64 n (by omega) (by omega) w;rw[z7] at this;rw[this];simp[kJ]
theorem BW (x:Int) (w:World) (b c n:Nat) (hO:ja w b 2 [.int .i64 x]) (hn:n≤1000000):
  Calls Tryz.prog 239 #[.slice (some ⟨b,0,none⟩) 1 c,.int .i64 n] w fun e w'=>e = .returned (.slice (some ⟨w.heap.size,0,none⟩) n n)∧ja w' w.heap.size 2 (jc (List.replicate n x))∧Below w.heap.size w w':=by
 have hmk:=VM w n (by omega);have hO2:=hO.alloc (.cells (kJ 0 n 0).toArray 2);have hc0:(w.alloc (.cells (kJ 0 n 0).toArray 2)).cell? ⟨b,0,none⟩=some (.int .i64 x):=hO2.cell 0
 have hz:kJ 0 n 0=kJ x n 0:=by simp[kJ]
 have HG:Hid (ja (w.alloc (.cells (kJ 0 n 0).toArray 2)) w.heap.size 2 (kJ x n 0)):=Lib.hid (by
  have h:=ja.make w 2 (kJ 0 n 0)
  have e:∀L,kJ 0 n 0=L→ja (w.alloc (.cells (kJ 0 n 0).toArray 2)) w.heap.size 2 L:=fun L e=>e ▸ h
  exact e _ hz)
 clear hO hz;go_enter Tryz.func239,Tryz.ntmps239
 go_upto_region 7 with (go_at_call 251;refine(V0 n _ hn).mono ?_;rintro e w' ⟨rfl,rfl⟩)
 clear hO2 hmk
 have hcs:∀j v,(List.replicate (min 1 n) (Value.int .i64 x))[j]? =some v→(w.alloc (.cells (kJ 0 n 0).toArray 2)).cell? ((⟨b,0,none⟩:Addr).add j)=some v:=by
  intro j v hv;rw[List.getElem?_replicate] at hv;split at hv
  ·rename_i hj
   have:j=0:=by omega
   subst this;rw[←hv];exact hc0
  ·cases hv
 have Hcs:=Lib.hid hcs;clear hcs hc0
 go_wp2_with ((refine wpList_copy_splice (o:=⟨some 33,_,_,_,_,_⟩) rfl (.tmp 31) (.tmp 32) 192 192 rfl 2 Tryz.underlying192 (by kernel_rfl) (some ⟨w.heap.size,0,none⟩) (some ⟨b,0,none⟩) n n 1 c rfl rfl w.heap.size 0 (kJ x n 0) 2 HG.out (List.replicate (min 1 n) (.int .i64 x)) (by simp) (fun _=>⟨rfl,_,rfl,Hcs.out⟩) (by rw[Vf x (by omega)];simp;omega) (fun v hv=>by rw[List.eq_of_mem_replicate hv];rfl) w.heap.size w ((Below.refl _ _).alloc (Nat.le_refl _) _) (Nat.le_refl _) ?_;intro w1 hw1 hB1;rw[Vg x (by omega)] at hw1;clear HG Hcs))
 go_loopg [8] (n-min 1 n) (fun gh k wr=>∃m:Nat,k = .int .i64 m∧m+gh=n∧Hid (1≤m∨n=0)∧Hid (ja wr w.heap.size 2 (kJ x n m))∧Below w.heap.size w wr)
 case atStart=>exact⟨min 1 n,by simp,by omega,Lib.hid (by omega),Lib.hid (by have:=hw1.out;simp at this;exact this),hB1⟩
 case round=>
  clear hw1 hB1;obtain⟨m,rfl,hm,h1,hO,hB⟩:=hrel;by_cases hlt:m<n
  ·have hml:m≤n:=by omega
   have hmn:¬n=m:=by omega
   have hm0:¬m=0:=by have:=h1.out;omega
   have hl:=Lib.hid (fun j v (hv:(List.replicate (min m (n-m)) (Value.int .i64 x))[j]? =some v)=>show wr.cell? ((⟨w.heap.size,0,none⟩:Addr).add j)=some v from by
    rw[List.getElem?_replicate] at hv;split at hv
    ·rename_i hj
     rw[←hv];have:=(hO.out.cell j).trans (Tf x (n:=n) (by omega:j<m))
     (simp only[Addr.add];split <;> simp_all)
    ·cases hv)
   have hcp:=run_copy_row (P:=Tryz.prog) wr.drew 192 192 3 2 w.heap.size m (n-m) (n-m) ⟨w.heap.size,0,none⟩ m n (kJ x n m).toArray 2 (List.replicate (min m (n-m)) (.int .i64 x)) Tryz.underlying192 (by kernel_rfl) hO.out (by simp) hl.out (by simp[Vf x hml];omega) (fun v hv=>by rw[List.eq_of_mem_replicate hv];rfl);have hsp:=Vg x (n:=n) (k:=m) (m:=min m (n-m)) (by omega);unfold splice at hsp;rw[List.append_assoc,List.toList_toArray,hsp] at hcp;simp only[List.length_replicate,goInt] at hcp;have hO1:Hid (ja (wr.drew.setRow w.heap.size (kJ x n (m+min m (n-m))).toArray) w.heap.size 2 (kJ x n (m+min m (n-m)))):=Lib.hid (setRow_heap wr.drew w.heap.size _ _ 2 (0,0) hO.out);have hB1:Below w.heap.size w (wr.drew.setRow w.heap.size (kJ x n (m+min m (n-m))).toArray):=below_setRow hB.drew (Nat.le_refl _) _;have hmm:IntKind.i64.wrap ((m:Int)+((min m (n-m):Nat):Int))=(m:Int)+((min m (n-m):Nat):Int):=IntWalk.i64_in _ (by omega)
   have hle:m+min m (n-m)≤n:=by omega
   have hgt:m<m+min m (n-m):=by have:=h1.out;omega
   generalize hmin:min m (n-m)=d at *;have Hd:=Lib.hid hmin;clear hl hsp hmin hO hB
   go_wp2_with fail
   go_region
   go_wp2
   go_roundg (gk-d)
   case rel=>exact⟨m+d,by go_num,by omega,Lib.hid (by omega),hO1,hB1⟩
   case measure=>omega
  ·have hmn:m=n:=by omega
   have hin:¬((m:Int)<(n:Int)):=by omega
   have HO:=Lib.hid (show ja wr w.heap.size 2 (jc (List.replicate n x)) by have:=hO.out;rw[hmn] at this;simpa [kJ,jc] using this);clear hO hmn
   go_wp2
   go_ret;exact⟨rfl,HO.out,hB⟩
theorem Tg (x:Int) (w:World) (n:Nat) (hn:n≤1000000):
  Calls Tryz.prog 216 #[.int .i64 n,.int .i64 x] w fun e w'=>∃g,e = .returned (.slice (some ⟨g,0,none⟩) n n)∧w.heap.size≤g∧ja w' g 2 (jc (List.replicate n x))∧Below w.heap.size w w':=by
 have hO:=ja.make w 2 [.int .i64 x];have RP:=Lib.hid (BW x _ w.heap.size 1 n hO hn);clear hO;go_enter Tryz.func216,Tryz.ntmps216
 go_wp2_with fail
 refine RP.out.mono ?_;rintro e w1 ⟨rfl,hO1,hB1⟩
 go_wp2
 go_ret;exact⟨_,rfl,by omega,by simpa using hO1,((Below.refl _ w).alloc (Nat.le_refl _) _).trans (hB1.mono (by simp))⟩
theorem Ja {w:World} {base:Nat} {e:TypeId} {A:Option Addr} {n c:Nat} {xs:List Value} (h:w.ownsRow base e 1 (.slice A n c) n xs) {j:Nat} (hj:j<n):
  ∃g,A=some ⟨g,0,none⟩∧base≤g∧g<w.heap.size ∧ ∀i,i<n→w.cell? ⟨g,i,none⟩=xs[i]? :=by
 have hl:=h.1
 rcases h.2 with ⟨h1,h2⟩ | ⟨g,cap,cur,h1,hb,hg,h3,h4,h5,h6⟩
 ·omega
 ·injection h1 with h1 _ h8
  subst h1 h8;refine⟨g,rfl,hb,(Array.getElem?_eq_some_iff.1 hg).1,fun i hi=> ?_⟩;rw[cell_of_row w g i cur e (0,0) hg,←h6,List.getElem?_take];simp[hi]
theorem UH (v:Value) (base:Nat) (cols:List Nat) (col:Nat) (w:World) (h:w.ownsRow base 3 1 v cols.length (jp cols)) (hl:cols.length≤1000000):
  Calls Tryz.prog 205 #[v,.int .i64 (col:Int)] w fun e w'=>e = .returned (.bool (cols.contains col))∧w=w':=by
 obtain⟨A,c,rfl,hc,_⟩:=j8 h
 rcases cols with _ | ⟨a,r⟩
 ·exact(Tryz.slices_Contains_int_empty A c col w).mono fun e w' ⟨h1,h2⟩=>⟨h1,h2.symm⟩
 ·obtain⟨g,rfl,_,_,hcell⟩:=Ja h (j:=0) (by simp)
  generalize hL:a::r=L at *
  refine(Tryz.slices_Contains_int g 0 L.length c (L.map fun (x:Nat)=>(x:Int)) col w (by simp) (by omega) (fun j hj=> ?_)).mono fun e w' ⟨h1,h2⟩=>⟨?_,h2.symm⟩
  ·rw[List.length_map] at hj
   rw[Nat.zero_add,hcell j hj];simp[jp,hj]
  ·rw[h1,List.take_of_length_le (by simp)]
   congr 2
   rw[Bool.eq_iff_iff];simp only[List.contains_iff_mem,List.mem_map]
   exact⟨fun ⟨a,ha,e⟩=>by have:a=col:=by omega
                          exact this ▸ ha,fun h=>⟨col,h,rfl⟩⟩
def zS (w:World) (base:Nat) (v:Value) (B:List (Nat×List Int)) (n:Nat):Prop:=
 w.ownsRow base 192 1 v B.length (B.map fun r=>Value.slice (some ⟨r.1,0,none⟩) n n) ∧ ∀r∈B,base≤r.1∧ja w r.1 2 (jc r.2)∧r.2.length=n
def Wd (p:Int) (n g:Nat) (R:List jS) (w:World) (e:Ending) (w':World):Prop:=
 ∃v B,e = .returned v∧B.map (·.2)=nsBasis (jC p) 0 1 n (j3 (jC p) n R.length 0 ⟨ke List.reverse R R.length,[],[],false⟩) n∧zS w' w.heap.size v B n∧jO (g::R.map (·.1)) w w'
theorem Vt:(Tryz.prog.info? 192).map (fun i=>(i.zero,i.size,i.bytes))=some (some (.slice none 0 0),1,24):=by kernel_rfl
theorem Wg (p:Int) (w:World) (hp:2≤p) (hp2:p≤1000000000):Calls Tryz.prog 321 #[.agg #[.int .i64 p],.int .i64 0] w fun e w'=>e = .returned (.int .i64 0)∧Below w.heap.size w w':=
 (Gc p 0 w (by omega) hp2).mono fun e w' h=>⟨by rw[h.1];simp,h.2⟩
theorem Kg (p:Int) (w:World) (hp:2≤p) (hp2:p≤1000000000):Calls Tryz.prog 321 #[.agg #[.int .i64 p],.int .i64 1] w fun e w'=>e = .returned (.int .i64 1)∧Below w.heap.size w w':=
 (Gc p 1 w (by omega) hp2).mono fun e w' h=>⟨by rw[h.1,Int.emod_eq_of_lt (by omega) (by omega)],h.2⟩
theorem zS.below {w w':World} {base n:Nat} {v:Value} {B:List (Nat×List Int)} (h:zS w base v B n) (hb:Below w.heap.size w w'):zS w' base v B n:=
 ⟨kC h.1 hb,fun r hr=>⟨(h.2 r hr).1,(h.2 r hr).2.1.below hb (h.2 r hr).2.1.lt,(h.2 r hr).2.2⟩⟩
theorem zS.snoc {w w':World} {base n:Nat} {v v':Value} {B:List (Nat×List Int)} {gl:Nat} {L:List Int} (h:zS w base v B n) (hg:w.grownBy w' v.ownBlock) (hown:w'.ownsRow base 192 1 v' (B.length+1) (B.map (fun r=>Value.slice (some ⟨r.1,0,none⟩) n n)++[.slice (some ⟨gl,0,none⟩) n n]))
  (hO:ja w gl 2 (jc L)) (hgl:base≤gl) (hl:L.length=n):zS w' base v' (B++[(gl,L)]) n:=by
 have hne:∀k,ja w k 2 (jc L)→v.ownBlock≠some k:=by
  intro k hk e
  rcases h.1.2 with ⟨rfl,_⟩ | ⟨g,cap,cur,rfl,_,hg',_⟩
  ·simp[Value.ownBlock] at e
  ·simp[Value.ownBlock] at e
   subst e;unfold ja at hk;rw[hg'] at hk
   injection hk with hk
   injection hk with _ hk
   exact absurd hk (by decide)
 refine⟨by rw[List.map_append,List.length_append];exact hown,fun r hr=> ?_⟩;rcases List.mem_append.1 hr with hr | hr
 ·have:=h.2 r hr
  refine⟨this.1,this.2.1.grown hg ?_,this.2.2⟩;intro e
  rcases h.1.2 with ⟨rfl,_⟩ | ⟨g,cap,cur,rfl,_,hg',_⟩
  ·simp[Value.ownBlock] at e
  ·simp[Value.ownBlock] at e
   have hk:=this.2.1;rw[←e] at hk;unfold ja at hk;rw[hg'] at hk
   injection hk with hk
   injection hk with _ hk
   exact absurd hk (by decide)
 ·obtain rfl:=List.mem_singleton.1 hr
  exact⟨hgl,hO.grown hg (hne gl hO),hl⟩
theorem Dk (p:Int) (g c n:Nat) (R:List jS) (w:World) (hM:kd w g R n) (hc:R.length≤c) (hc2:c≤1000000) (hn:n≤1000000) (hp:PF p) (hI:xN p R) (h0:R=[]→n=0):
  Calls Tryz.prog 164 #[.iface 197 (.agg #[.int .i64 p]),.slice (some ⟨g,0,none⟩) R.length c] w (Wd p n g R w):=by
 have HM:=Lib.hid hM;have HI:=Lib.hid hI;have HP:=Lib.hid hp;have H0:=Lib.hid h0;clear hM hI hp h0;go_enter Tryz.func164,Tryz.ntmps164
 go_wp2_with fail
 go_loopg [16] R.length (fun gh i wr=>∃k:Nat,i = .int .i64 k∧k+gh=R.length∧Hid (kd wr g (ke List.reverse R k) n)∧Hid (jO (g::R.map (·.1)) w wr))
 case atStart=>exact⟨0,rfl,by omega,Lib.hid (by rw[Xj];exact HM.out),Lib.hid (jO.refl _ _)⟩
 case round=>
  obtain⟨k,rfl,hk,hMk,hB⟩:=hrel
  cases gk with
  | succ gh=>
   have hlt:k<R.length:=by omega
   have hlt':(k:Int)<(R.length:Int):=by omega
   obtain⟨r,hr⟩:∃r,R[k]? =some r:=⟨R[k],List.getElem?_eq_getElem hlt⟩
   have hr':=(Xi (f:=List.reverse) (R:=R) k).trans hr;have hck:=hMk.out.cellRow hr';have hgl:=hMk.out.own.lt;obtain⟨hro,hrl,hrc1,hrc2⟩:=hMk.out.row _ (List.mem_of_getElem? hr');have RV:=Lib.hid (Gi wr r.1 n r.2.1 r.2.2 hro hrl.symm hrc1 hrc2);have Hk:=Lib.hid hk;have Hrb:Hid (r.1∈g::R.map (·.1)):=Lib.hid (List.mem_cons_of_mem _ (List.mem_map_of_mem (List.mem_of_getElem? hr)));have Hst:=Lib.hid (Y8 (f:=List.reverse) hr);have Hr:=Lib.hid hr';have Hrl:=Lib.hid hrl;clear hk hr hr' hro hrl;obtain⟨kb,kc,kl⟩:=r;unfold qy at hck;dsimp only at hck hrc1 hrc2
   go_wp2_with fail
   refine RV.out.mono ?_;clear RV;rintro e w1 ⟨rfl,hO1,hB1⟩
   have HM1:Hid (kd w1 g (ke List.reverse R (k+1)) n):=Lib.hid (by
    rw[←Hst.out]
    exact hMk.out.setRow Hr.out hO1 (by rw[List.length_reverse];exact Hrl.out) hB1)
   have HB1:Hid (jO (g::R.map (·.1)) w w1):=Lib.hid (hB.out.but hB1 Hrb.out);clear hMk hB hO1 hB1 hck
   go_wp2
   go_roundg gh
   case rel=>exact⟨k+1,by go_num,by have:=Hk.out;omega,HM1,HB1⟩
   case measure=>omega
  | zero=>
   have hkR:k=R.length:=by omega
   have hin:¬((k:Int)<(R.length:Int)):=by omega
   rw[hkR] at hMk;clear hk hkR;generalize hQe:ke List.reverse R R.length=Q at *;have HQl:Hid (Q.length=R.length):=Lib.hid (by rw[←hQe];exact KZ _);have HQb:Hid (Q.map (·.1)=R.map (·.1)):=Lib.hid (by rw[←hQe];exact VU _)
   have HQi:Hid (xN p Q):=Lib.hid (by
    rw[←hQe,Y7];intro r hr x hx;obtain⟨q,hq,rfl⟩:=List.mem_map.1 hr
    exact HI.out q hq x (List.mem_reverse.1 hx))
   have HQ:=Lib.hid hQe;clear hQe
   have WD:Hid (Calls Tryz.prog 215 #[.slice (some ⟨g,0,none⟩) R.length c] wr fun e w'=>e = .returned (.int .i64 (n:Int))∧wr=w'):=Lib.hid (by
    have h:=H3 g c n Q wr hMk.out;rw[HQl.out] at h;by_cases hR:R=[]
    ·have h1:=H0.out hR
     have:Q=[]:=List.length_eq_zero_iff.1 (by rw[HQl.out,hR];rfl);rw[if_pos this] at h;rw[h1];exact h
    ·have:Q≠[]:=fun e=>hR (List.length_eq_zero_iff.1 (by rw[←HQl.out,e];rfl))
     rw[if_neg this] at h
     exact h)
   have EL:Hid (Calls Tryz.prog 163 #[.iface 197 (.agg #[.int .i64 p]),.slice (some ⟨g,0,none⟩) R.length c] wr (YJ p n g c Q wr)):=Lib.hid (by
    have h:=S4 p g c n Q wr hMk.out (by rw[HQl.out];exact hc) hc2 hn HP.out HQi.out;rw[HQl.out] at h
    exact h)
   go_wp2_with (first | (go_at_call 215;refine WD.out.mono ?_;rintro e w' ⟨rfl,rfl⟩) | (go_at_call 163;refine EL.out.mono ?_;rintro e w1 ⟨S,hS,cv,pv,rfl,hM1,hcv,hpv,hl1,hl2,hl3,hpm,hin1,hbs⟩;obtain⟨A1,k1,rfl,_,_⟩:=j8 hcv;obtain⟨A2,k2,rfl,_,_⟩:=j8 hpv;have HS:=Lib.hid hS;have HM1:=Lib.hid hM1;have Hcv:=Lib.hid hcv;have Hl1:=Lib.hid hl1;have Hl2:=Lib.hid hl2;have Hl3:=Lib.hid hl3;have HPM:=Lib.hid hpm;have Hin:=Lib.hid hin1;have Hbs:=Lib.hid hbs;clear hS hM1 hcv hpv hl1 hl2 hl3 hpm hin1 hbs))
   obtain⟨W0,hW0⟩:∃W0,W0=w1.alloc (.cells #[.slice (some ⟨g,0,none⟩) S.piv.length c,.slice A1 S.cols.length k1,.slice A2 S.piv.length k2,.bool S.odd] 194):=⟨_,rfl⟩
   have hX:Hid (ja W0 w1.heap.size 194 [.slice (some ⟨g,0,none⟩) S.piv.length c,.slice A1 S.cols.length k1,.slice A2 S.piv.length k2,.bool S.odd]):=Lib.hid (by rw[hW0];exact ja.make _ _ _)
   have ha:Below w1.heap.size w1 W0:=by rw[hW0];exact(Below.refl _ _).alloc (Nat.le_refl _) _
   have hsz0:W0.heap.size=w1.heap.size+1:=by rw[hW0];simp
   have HM2:=Lib.hid (HM1.out.below ha);have Hcv2:=Lib.hid (kC Hcv.out ha)
   have HbW:Hid (jO (g::R.map (·.1)) w W0):=Lib.hid (by
    have:=Hbs.out;rw[HQb.out] at this
    exact(hB.out.trans this).below ha)
   have Hsz:Hid (W0.heap.size=w1.heap.size+1):=Lib.hid hsz0;have Hww:Hid (w.heap.size≤w1.heap.size):=Lib.hid (by have:=HbW.out.size;have h2:=(hB.out.trans (HQb.out ▸ Hbs.out)).size;exact h2);have Hcl:Hid (∀c∈S.cols,c<n):=Lib.hid (by rw[HS.out];exact YH _ _ _ (by omega) (by simp));have HSS:Hid (S=j3 (jC p) n R.length 0 ⟨ke List.reverse R R.length,[],[],false⟩):=Lib.hid (by rw[HQ.out,←HQl.out];exact HS.out);rw[←hW0]
   have hpl:S.piv.length≤R.length:=by have:=Hl2.out;have:=Hl3.out;have:=HQl.out;omega
   have Hpc:=Hl1;clear ha hsz0 hW0 HM1 Hcv WD EL hB Hbs HPM HQi HQb hMk HS HQ;obtain⟨i0,hi0,hz0,hz1,hz2⟩:=info_parts Vt;have hpp:=HP.out.1;have hpp2:=HP.out.2.1;have hofm:=Ds p
   go_loopg [9,10] n (fun gh b cl wr=>∃(k:Nat) (B:List (Nat×List Int)),cl = .int .i64 ((n:Int)-1-k)∧k+gh=n∧Hid (B.map (·.2)=nsBasis (jC p) 0 1 n S k)∧B.length≤k∧Hid (zS wr (w1.heap.size+1) b B n)∧Hid (Below (w1.heap.size+1) W0 wr))
   case atStart=>exact⟨0,[],by go_num,by omega,Lib.hid rfl,by simp,Lib.hid ⟨World.ownsRow_nil _ _ _ _,by simp⟩,Lib.hid (Below.refl _ _)⟩
   case round=>
    obtain⟨k,B,rfl,hk,hBe,hBl,hT,hW⟩:=hrel
    cases gk with
    | zero=>
     have hin2:¬((0:Int)≤(n:Int)-1-k):=by omega
     go_wp2
     go_ret
     have hkn:k=n:=by omega
     have hT':=hT.out;refine⟨_,B,rfl,?_,⟨JA hT'.1 (by have:=Hww.out;omega),fun r hr=>⟨by have:=(hT'.2 r hr).1;have:=Hww.out;omega,(hT'.2 r hr).2⟩⟩,HbW.out.below (hW.out.mono (by rw[Hsz.out];exact Nat.le_refl _))⟩;rw[←HSS.out,hBe.out,hkn]
    | succ gh=>
     have hcol:(n:Int)-1-k=((n-1-k:Nat):Int):=by omega
     have hcn:n-1-k<n:=by omega
     rw[hcol];have Hst:Hid (nsBasis (jC p) 0 1 n S (k+1)=nsBasis (jC p) 0 1 n S k++(if S.cols.contains (n-1-k)=true then [] else [zE (jC p) 0 1 n S (n-1-k)])):=Lib.hid rfl;have Hnext:Hid ((n:Int)-1-((k+1:Nat):Int)=((n-1-k:Nat):Int)-1):=Lib.hid (by omega);have Hk:=Lib.hid hk;clear hcol hk;generalize n-1-k=col at *;have CN:=Lib.hid (UH _ _ S.cols col wr (xh Hcv2.out fun j hj _=>hW.out.block j (by have:=Hsz.out;omega)) (by have:=Hpc.out;omega));have hX2:=hX.out.below hW.out (Nat.lt_succ_self _);obtain⟨x0,x1,x2,x3,y0,y1,y2,y3⟩:=hX2.four;by_cases hct:S.cols.contains col=true
     ·have Hct:=Lib.hid hct
      clear hct
      go_wp2_with fail
      refine CN.out.mono ?_;rintro e w2 ⟨rfl,rfl⟩;rw[Hct.out]
      go_wp2
      go_roundg gh
      case rel=>exact⟨k+1,B,by rw[Hnext.out],by have:=Hk.out;omega,Lib.hid (by rw[Hst.out,if_pos Hct.out,List.append_nil];exact hBe.out),by omega,hT,hW⟩
      case measure=>omega
     ·have Hct:Hid (S.cols.contains col=false):=Lib.hid (by simpa using hct)
      clear hct
      go_wp2_with fail
      refine CN.out.mono ?_;rintro e w2 ⟨rfl,rfl⟩;rw[Hct.out]
      go_wp2_with (first | (go_at_call 321;refine(Wg p _ hpp hpp2).mono ?_;rintro e w2 ⟨rfl,hB2⟩) | (go_at_call 216;refine(Tg 0 _ n hn).mono ?_;rintro e w3 ⟨gl,rfl,hgl,hO3,hB3⟩))
      have hO3l:w3.cell? ⟨gl,col,none⟩=some (.int .i64 0):=(hO3.cell col).trans (by simp[jc,hcn]);have hgl3:=hO3.lt;have hglr:wr.heap.size≤gl:=Nat.le_trans hB2.size hgl;have HB3:=Lib.hid (hB2.trans (hB3.mono hB2.size));have HO3:=Lib.hid hO3;clear hB2 hB3 hgl hO3 CN hX2 x0 x1 x2 x3 y0 y1 y2 y3
      go_wp2_with fail
      refine(Kg p _ hpp hpp2).mono ?_;rintro e w4 ⟨rfl,hB4⟩;have hO4:=HO3.out.below hB4 hgl3;have hc4:=(hB4.cell (p:=⟨gl,col,none⟩) hgl3).trans hO3l;have hf4:=hO4.free col;have hgl4:=hO4.lt
      have hl4:Hid (ja (w4.setCell ⟨gl,col,none⟩ (.int .i64 1)) gl 2 (jc (nsSet (jC p) 0 S col 0 ((List.replicate n 0).set col 1)))):=Lib.hid (by
       show ja _ _ _ (jc ((List.replicate n 0).set col 1))
       rw[←xF];exact hO4.put _ _)
      have hW4:Hid (Below wr.heap.size wr (w4.setCell ⟨gl,col,none⟩ (.int .i64 1))):=Lib.hid ((HB3.out.trans (hB4.mono HB3.out.size)).setCell hglr _);have HX2:=Lib.hid (hX.out.below hW.out (Nat.lt_succ_self _));obtain⟨x0,x1,x2,x3,y0,y1,y2,y3⟩:=(HX2.out.below hW4.out HX2.out.lt).four;have HLl:Hid (((List.replicate n (0:Int)).set col 1).length=n):=Lib.hid (by simp);have HLe:Hid (zE (jC p) 0 1 n S col=(nsSet (jC p) 0 S col S.cols.length ((List.replicate n 0).set col 1)).reverse):=Lib.hid rfl;generalize (List.replicate n (0:Int)).set col 1=L0 at *;clear hO3l HB3 HO3 hB4
      go_upto_region 15 with fail
      obtain⟨w5,hw5⟩:∃w5,w5=w4.setCell ⟨gl,col,none⟩ (.int .i64 1):=⟨_,rfl⟩
      rw[←hw5] at hl4 hW4 x0 x1 x2 x3 y0 y1 y2 y3;rw[←hw5];clear hw5 hO4 hc4 hf4 hgl4
      go_wp2_with fail
      obtain⟨wb,rfl⟩:∃wb,wb=wr:=⟨_,rfl⟩
      go_loopg [50] S.piv.length (fun gh2 ix wx=>∃i:Nat,ix = .int .i64 i∧i+gh2=S.piv.length∧Hid (Below wb.heap.size wb wx)∧Hid (ja wx gl 2 (jc (nsSet (jC p) 0 S col i L0))))
      case atStart=>exact⟨0,rfl,by omega,hW4,hl4⟩
      case round=>
       clear hl4 hW4 x0 x1 x2 x3 y0 y1 y2 y3;obtain⟨i,rfl,hi,hWx,hOx⟩:=hrel
       cases gk with
       | zero=>
        have hin3:¬((i:Int)<(S.piv.length:Int)):=by omega
        have hOr:Hid (ja wr gl 2 (jc (nsSet (jC p) 0 S col S.cols.length L0))):=Lib.hid (by
         have:i=S.cols.length:=by have:=Hpc.out;omega
         rw[←this];exact hOx.out)
        have RV:=Lib.hid (Gi wr gl n n _ hOr.out (by rw[z8,HLl.out]) (Nat.le_refl _) hn)
        have hBl2:B.length<n:=by have:=Hk.out;omega
        go_wp2_with fail
        refine RV.out.mono ?_;rintro e w6 ⟨rfl,hO6,hB6⟩;rw[←HLe.out] at hO6;have HO6:=Lib.hid hO6;have HB6:=Lib.hid (hWx.out.trans (hB6.toBelow hglr hWx.out.size));have HT6:=Lib.hid (hT.out.below HB6.out)
        have hs6:w1.heap.size+1≤w6.heap.size:=by have:=HB6.out.size;have:=hW.out.size;have:=Hsz.out;omega
        clear hO6 hB6 RV hOr hOx hWx;obtain⟨A9,k9,hbv,_,_⟩:=j8 HT6.out.1;subst hbv
        go_wp2_with (at_builtin;(refine wpList_append_own _ rfl _ _ 189 rfl (w1.heap.size+1) 192 i0 (.slice none 0 0) 1 24 Tryz.underlying189 hi0 hz0 hz1 hz2 rfl (by decide) _ _ _ rfl (HT6.out.1.alloc _) ⟨w6.heap.size,0,none⟩ 1 1 [.slice (some ⟨gl,0,none⟩) n n] rfl rfl (cell_one_new _ _ _) (fun x hx=>by simp at hx;subst hx;rfl) (by unfold maxLen;omega) (by omega) (by simp;omega) ?_;intro v7 w7 hown7 hgrow7 _))
        have hal:Below w6.heap.size w6 (w6.alloc (.cells #[.slice (some ⟨gl,0,none⟩) n n] 192)):=(Below.refl _ _).alloc (Nat.le_refl _) _;have HT7:=Lib.hid ((HT6.out.below hal).snoc hgrow7 hown7 (HO6.out.below hal HO6.out.lt) (by have:=hW.out.size;have:=Hsz.out;omega) (by rw[HLe.out,List.length_reverse,z8,HLl.out]));have HW7:Hid (Below (w1.heap.size+1) W0 w7):=Lib.hid (Below.grown (((hW.out.trans (HB6.out.mono (by have:=hW.out.size;have:=Hsz.out;omega)))).alloc hs6 _) hgrow7 (by simp;omega) (fun j hj=>(HT6.out.1.lt j hj).1))
        go_roundg gh
        case rel=>exact⟨k+1,B++[(gl,zE (jC p) 0 1 n S col)],by rw[Hnext.out],by have:=Hk.out;omega,Lib.hid (by rw[Hst.out,if_neg (by rw[Hct.out];simp),List.map_append,hBe.out];rfl),by simp;omega,HT7,HW7⟩
        case measure=>omega
       | succ gh2=>
        have hil:i<S.piv.length:=by omega
        have hil':(i:Int)<(S.piv.length:Int):=by omega
        obtain⟨r,hr⟩:∃r,S.rows[i]? =some r:=⟨S.rows[i]'(by have:=Hl2.out;omega),List.getElem?_eq_getElem _⟩
        have hW0r:Below W0.heap.size W0 wr:=(hW.out.trans (hWx.out.mono (by have:=hW.out.size;have:=Hsz.out;omega))).mono (by rw[Hsz.out];exact Nat.le_refl _);have hMr:=HM2.out.below hW0r;have c1:=hMr.cellRow hr;have c2:=hMr.cellNum hr hcn;obtain⟨_,hrl,hrc1,hrc2⟩:=hMr.row _ (List.mem_of_getElem? hr);have hW0b:W0.heap.size≤wb.heap.size:=hW.out.size;have hrb0:r.1<wb.heap.size:=Nat.lt_of_lt_of_le (HM2.out.row _ (List.mem_of_getElem? hr)).1.lt hW0b;have hy:=Hin.out r (List.mem_of_getElem? hr) (r.2.2[col]?.getD 0) (by rw[List.getElem?_eq_getElem (by omega)];exact List.getElem_mem (by omega));obtain⟨cb0,hA0,_,hcb0,_⟩:=Ja Hcv2.out (j:=i) (by have:=Hpc.out;omega);obtain⟨cb,hA,_,hcbl,hcc⟩:=Ja (kC Hcv2.out hW0r) (j:=i) (by have:=Hpc.out;omega)
        have c3:wr.cell? ⟨cb,i,none⟩=some (.int .i64 ((S.cols[i]?.getD 0:Nat):Int)):=(hcc i (by have:=Hpc.out;omega)).trans (by
         have:i<S.cols.length:=by have:=Hpc.out;omega
         simp[jp,this])
        have hci:S.cols[i]?.getD 0<n:=Hcl.out _ (by
         have:i<S.cols.length:=by have:=Hpc.out;omega
         rw[List.getElem?_eq_getElem this];exact List.getElem_mem this)
        have Hst2:Hid (nsSet (jC p) 0 S col (i+1) L0=(nsSet (jC p) 0 S col i L0).set (S.cols[i]?.getD 0) ((0-r.2.2[col]?.getD 0)%p)):=Lib.hid (by
         rw[K5]
         show _=_
         congr 1
         show (0-kB (jC p) S.rows i col)%p=_
         unfold kB
         rw[zf hr];rfl)
        have hX3:=HX2.out.below hWx.out HX2.out.lt;obtain⟨x0,x1,x2,x3,y0,y1,y2,y3⟩:=hX3.four;have hXl:=hX3.lt;have hrb:r.1<wr.heap.size:=(hMr.row _ (List.mem_of_getElem? hr)).1.lt;have hgl2:=hMr.own.lt;have hgll:=hOx.out.lt
        have hcbe:cb0=cb:=by rw[hA] at hA0;injection hA0 with h;injection h with h;exact h.symm
        have hcb0:cb<wb.heap.size:=by rw[←hcbe];exact Nat.lt_of_lt_of_le hcb0 hW0b
        clear hcbe hA0;subst hA;obtain⟨rb,rc,rl⟩:=r;unfold qy at c1;dsimp only at c1 c2 hrl hrc1 hrc2 hy Hst2 hrb hrb0;generalize rl[col]?.getD 0=y at *;generalize S.cols[i]?.getD 0=ci at *
        obtain⟨v,hv⟩:∃v,v=(0-y)%p:=⟨_,rfl⟩
        rw[←hv] at Hst2;have RM:=Lib.hid (fun W=>(hv ▸ Gb p 0 y W (by omega) hpp2 ⟨by omega,by omega⟩ hy:Calls Tryz.prog 320 #[.agg #[.int .i64 p],.int .i64 0,.int .i64 y] W fun e w'=>e = .returned (.int .i64 v)∧Below W.heap.size W w'))
        obtain⟨z,c4⟩:∃z,wr.cell? ⟨gl,ci,none⟩=some (.int .i64 z):=⟨_,(hOx.out.cell ci).trans (kh _ ci (by rw[z8,HLl.out];exact hci))⟩
        have f4:=hOx.out.free ci;have Hr3:=Lib.hid (And.intro hrc1 hrc2)
        have KS:Hid (∀x,Below wb.heap.size wb x→x.cell? ⟨w1.heap.size,1,none⟩=some (.slice (some ⟨cb,0,none⟩) S.cols.length k1)∧x.cell? ⟨rb,col,none⟩=some (.int .i64 y)∧x.cell? ⟨cb,i,none⟩=some (.int .i64 (ci:Nat))∧Below wb.heap.size wb x):=Lib.hid (fun x hb=>
         ⟨(hb.cell (p:=⟨w1.heap.size,1,none⟩) HX2.out.lt).trans ((hWx.out.cell (p:=⟨w1.heap.size,1,none⟩) HX2.out.lt).symm.trans x1),(hb.cell (p:=⟨rb,col,none⟩) hrb0).trans ((hWx.out.cell (p:=⟨rb,col,none⟩) hrb0).symm.trans c2),(hb.cell (p:=⟨cb,i,none⟩) hcb0).trans ((hWx.out.cell (p:=⟨cb,i,none⟩) hcb0).symm.trans c3),hb⟩)
        have hic:i<S.cols.length:=by have:=Hpc.out;omega
        have hic':(i:Int)<(S.cols.length:Int):=by omega
        have hci':(ci:Int)<(n:Int):=by omega
        have hcn':(col:Int)<(n:Int):=by omega
        clear hv hr hy hMr hcc hX3 x0 x2 x3 y0 y1 y2 y3 hrl hW0r hrc1 hrc2 hrb0 hcb0 hW0b;have hM:=VX p;have hmn:=VY p
        have hmf:∀(fn:Fn) (first cap:Array Value) (w:World),(Instr.makeFunc fn first cap).run Tryz.prog w = .ok (.func fn first cap) w:=fun _ _ _ _=>rfl
        have KT:=Lib.hid (fun (x x':World) (hb:Below x.heap.size x x') (h5:Below wb.heap.size wb x)=>KS.out x' (h5.trans (hb.mono h5.size)))
        go_wp2_with fail
        go_region_held3 (fun w'=>w'.cell? ⟨w1.heap.size,1,none⟩=some (.slice (some ⟨cb,0,none⟩) S.cols.length k1)∧w'.cell? ⟨rb,col,none⟩=some (.int .i64 y)∧w'.cell? ⟨cb,i,none⟩=some (.int .i64 (ci:Nat))∧Below wb.heap.size wb w')
         (first | exact KS.out _ hWx.out.drew | exact KT.out _ _ (by assumption) (by assumption) | (go_split_ands;exact KS.out _ (Below.setCell (by assumption) hglr _)))
         (first
          | (go_at_call 321;go_split_ands;refine(Wg p _ hpp hpp2).mono ?_;rintro e w4 ⟨rfl,hB4⟩;have a4:=(hB4.cell (p:=⟨gl,ci,none⟩) hgll).trans c4;have a5:=(hB4.frozen (p:=⟨gl,ci,none⟩) hgll).trans f4;have b4:gl<w4.heap.size:=Nat.lt_of_lt_of_le hgll hB4.size;have a6:=Lib.hid (hOx.out.below (jh.dr hB4) hgll))
          | (go_at_call 320;go_split_ands;refine(RM.out _).mono ?_;rintro e w5 ⟨rfl,hB5⟩;have d4:=(hB5.cell (p:=⟨gl,ci,none⟩) b4).trans a4;have d5:=(hB5.frozen (p:=⟨gl,ci,none⟩) b4).trans a5;have d6:=Lib.hid (a6.out.below hB5 b4)))
        all_goals (
         have HW7:Hid (Below wb.heap.size wb (w5.setCell ⟨gl,ci,none⟩ (.int .i64 v))):=Lib.hid (by go_split_ands;assumption);have HO7:Hid (ja (w5.setCell ⟨gl,ci,none⟩ (.int .i64 v)) gl 2 (jc (nsSet (jC p) 0 S col (i+1) L0))):=Lib.hid (by rw[Hst2.out,←xF];exact d6.out.put _ _);clear a4 a5 a6 d4 d5 d6 hB4 hB5 c1 c2 c3 c4 f4 x1 hOx hWx
         go_wp2
         go_roundg gh2
         case rel=>exact⟨i+1,by go_num,by omega,HW7,HO7⟩
         case measure=>omega)
def yq (L:List Int):Prop:=∀x∈L,-999999999≤x∧x≤999999999
def Kh (x:Int):Int:=qi x (-999999999) 999999999
theorem Dx {x:Int} (h: -999999999≤x∧x≤999999999):Kh x=0:=by unfold Kh qi;rw[if_pos h]
theorem Du {x:Int} (h:¬(-999999999≤x∧x≤999999999)):Kh x=3:=by unfold Kh qi;rw[if_neg h]
theorem WT (x:Int) (w:World):Calls Tryz.prog 210 #[.int .i64 x] w fun e w'=>e = .returned (.tuple #[.int .i64 x,.int .i64 (Kh x)])∧w=w':=by
 obtain⟨v,hv⟩:∃v,v=Kh x:=⟨_,rfl⟩
 have BD:=Lib.hid (fun W=>(by rw[hv];exact KF x W:Calls Tryz.prog 129 #[.int .i64 x] W fun e w'=>e = .returned (.int .i64 v)∧W=w'));rw[←hv];clear hv;go_enter Tryz.func210,Tryz.ntmps210
 go_wp2_with (go_at_call 129;refine(BD.out _).mono ?_;rintro e w' ⟨rfl,rfl⟩)
 go_ret2;exact⟨rfl,rfl⟩
def xi (L:List Int) (k:Nat):List Int:=L.take k++List.replicate (L.length-k) 0
theorem Wy (L:List Int) (k:Nat) (h:k≤L.length):(xi L k).length=L.length:=by simp[xi];omega
theorem Wz (L:List Int) (k:Nat) (h:k<L.length):(xi L k).set k (L[k]?.getD 0)=xi L (k+1):=by
 unfold xi;rw[XO L k h,List.set_append_right _ _ (by simp;omega),show L.length-k=(L.length-(k+1))+1 by omega,List.replicate_succ,List.length_take,Nat.min_eq_left (by omega),Nat.sub_self,List.set_cons_zero,List.append_assoc];rfl
theorem WE (L:List Int):xi L 0=List.replicate L.length 0:=by simp[xi]
theorem Wx (L:List Int):xi L L.length=L:=by simp[xi]
theorem Nz (w:World) (n:Nat) (hn:n≤17592186044416):(Instr.makeSlice 192 (.int .i64 (n:Int)) (.int .i64 (n:Int))).run Tryz.prog w = .ok (.slice (some ⟨w.heap.size,0,none⟩) n n) (w.alloc (.cells (jc (List.replicate n 0)).toArray 2)):=by
 have:=VM w n hn;simpa [kJ,jc] using this
def RZ (L:List Int) (w:World) (e:Ending) (w':World):Prop:=
 Below w.heap.size w w'∧((yq L ∧ ∃g,e = .returned (.tuple #[.slice (some ⟨g,0,none⟩) L.length L.length,.int .i64 0])∧w.heap.size≤g∧ja w' g 2 (jc L))∨(¬yq L∧e = .returned (.tuple #[jr,.int .i64 3])))
theorem R3 (v:Value) (L:List Int) (w:World) (hv:Sl w 1 v (jc L)) (hl:L.length≤1000000):
  Calls Tryz.prog 238 #[v,.func (.func 210) #[] #[]] w (RZ L w):=by
 obtain⟨A,c,rfl,hc1,hc2⟩:=hv.form;simp only[jQ] at hc1 hv ⊢;have hmk:=Nz w L.length (by omega);have HO:=Lib.hid (ja.make w 2 (jc (List.replicate L.length 0)));go_enter Tryz.func238,Tryz.ntmps238
 go_wp2_with fail
 go_loopg [15] L.length (fun gh i wr=>∃k:Nat,i = .int .i64 k∧k+gh=L.length∧Hid (yq (L.take k))∧Hid (ja wr w.heap.size 2 (jc (xi L k)))∧Below w.heap.size w wr)
 case atStart=>exact⟨0,rfl,by omega,Lib.hid (by unfold yq;simp),Lib.hid (by rw[WE];exact HO.out),(Below.refl _ _).alloc (Nat.le_refl _) _⟩
 case round=>
  clear hmk HO;obtain⟨k,rfl,hk,hI,hO,hB⟩:=hrel
  cases gk with
  | zero=>
   have hkl:k=L.length:=by omega
   have hin:¬((k:Int)<(L.length:Int)):=by omega
   have HI:=Lib.hid (show yq L by have:=hI.out;rwa [hkl,List.take_of_length_le (Nat.le_refl _)] at this);have HO:=Lib.hid (show ja wr w.heap.size 2 (jc L) by have:=hO.out;rwa [hkl,Wx] at this);clear hkl hI hO hk
   go_wp2
   go_ret2;exact⟨hB,.inl ⟨HI.out,_,rfl,Nat.le_refl _,HO.out⟩⟩
  | succ gh=>
   have hlt:k<L.length:=by omega
   obtain⟨b0,off,rfl,hbb,hcell⟩:=hv.at_ (k:=k) (by rw[jQ];omega);have hck:=(hB.cell (p:=⟨b0,off+k,none⟩) hbb).trans ((hcell k (by rw[jQ];omega)).trans (kh L k hlt));have hck2:=(hO.out.cell k).trans (kh _ k (by rw[Wy L k (by omega)];omega));have hfr:=hO.out.free k;have Hs:=Lib.hid (Wz L k hlt);have Ht:=Lib.hid (XO L k hlt);have Hm:Hid (L[k]?.getD 0∈L):=Lib.hid (by rw[List.getElem?_eq_getElem hlt];exact List.getElem_mem hlt);have Hk:=Lib.hid hk;generalize L[k]?.getD 0=x at *;generalize (xi L k)[k]?.getD 0=y at *;clear hcell hv hk;by_cases hx: -999999999≤x∧x≤999999999
   ·have HX:=Lib.hid hx
    have HE:=Lib.hid (Dx hx);clear hx
    go_wp2_with (go_at_call 210;refine(WT _ _).mono ?_;rintro e w' ⟨rfl,rfl⟩;rw[HE.out])
    have HO2:Hid (ja (wr.setCell ⟨w.heap.size,k,none⟩ (.int .i64 x)) w.heap.size 2 (jc (xi L (k+1)))):=Lib.hid (by rw[←Hs.out,←xF];exact hO.out.put _ _)
    go_roundg gh
    case rel=>exact⟨k+1,by go_num,by have:=Hk.out;omega,Lib.hid (by rw[Ht.out];intro z hz;rcases List.mem_append.1 hz with h | h;exact hI.out z h;rw[List.mem_singleton.1 h];exact HX.out),HO2,hB.setCell (by simp) _⟩
    case measure=>omega
   ·have HX:=Lib.hid hx
    have HE:=Lib.hid (Du hx);clear hx
    go_wp2_with (go_at_call 210;refine(WT _ _).mono ?_;rintro e w' ⟨rfl,rfl⟩;rw[HE.out])
    go_ret2;exact⟨hB.setCell (by simp) _,.inr ⟨fun h=>HX.out (h _ Hm.out),rfl⟩⟩
def yV (w:World) (v:Value) (M:List (List Int)):Prop:=
 ∃vs:List Value,Sl w 1 v vs∧vs.length=M.length ∧ ∀(i:Nat) (r:List Int),M[i]? =some r → ∃u,vs[i]? =some u∧Sl w 1 u (jc r)
instance (L:List Int):Decidable (yq L):=by unfold yq;infer_instance
def yM (n0:Nat):List (List Int)→Int
 | []=>0
 | r::t=>if 256<r.length then 5 else if r.length≠n0 then 2 else if yq r then yM n0 t else 3
def kM (M:List (List Int)):Int:=if 256<M.length then 5 else yM ((M[0]?.map (·.length)).getD 0) M
theorem Cb (n0 k:Nat) (M:List (List Int)) {r:List Int} (hr:M[k]? =some r):yM n0 (M.drop k)=if 256<r.length then 5 else if r.length≠n0 then 2 else if yq r then yM n0 (M.drop (k+1)) else 3:=by
 obtain⟨hk,rfl⟩:=List.getElem?_eq_some_iff.1 hr;rw[List.drop_eq_getElem_cons hk];rfl
def Ce (M:List (List Int)) (w:World) (e:Ending) (w':World):Prop:=
 Below w.heap.size w w'∧((kM M=0 ∧ ∃(g:Nat) (R:List jS),e = .returned (.tuple #[.slice (some ⟨g,0,none⟩) M.length M.length,.int .i64 0])∧w.heap.size≤g∧(∀r∈R,w.heap.size≤r.1)∧kd w' g R ((M[0]?.map (·.length)).getD 0)∧R.map (·.2.2)=M) ∨
  (kM M≠0∧e = .returned (.tuple #[jr,.int .i64 (kM M)])))
theorem NA (w:World) (n:Nat) (hn:n≤1000000):(Instr.makeSlice 189 (.int .i64 (n:Int)) (.int .i64 (n:Int))).run Tryz.prog w = .ok (.slice (some ⟨w.heap.size,0,none⟩) n n) (w.alloc (.cells (List.replicate n jr).toArray 192)):=by
 have:=run_make_row' (P:=Tryz.prog) 189 192 jr 24 Tryz.underlying189 Vt rfl .i64 .i64 n (by omega) (by omega) w;rw[z7] at this;exact this
structure JT (w wr:World) (g n:Nat) (M:List (List Int)) (k:Nat) (R:List jS):Prop where
 own:ja wr g 192 (R.map (qy n)++List.replicate (M.length-k) jr)
 rows:∀r∈R,ja wr r.1 2 (jc r.2.2)∧r.2.2.length=n∧n≤r.2.1∧r.2.1≤1000000
 new:∀r∈R,w.heap.size≤r.1
 apart:(R.map (·.1)).Nodup
 vals:R.map (·.2.2)=M.take k
theorem JT.len {w wr:World} {g n:Nat} {M:List (List Int)} {k:Nat} {R:List jS} (h:JT w wr g n M k R) (hk:k≤M.length):R.length=k:=by
 have:=congrArg List.length h.vals;simp at this;omega
theorem JT.step {w wr w1:World} {g n gn:Nat} {M:List (List Int)} {k:Nat} {R:List jS} {r:List Int} (h:JT w wr g n M k R) (hk:M[k]? =some r) (hl:r.length=n) (hn:n≤1000000) (hb:Below wr.heap.size wr w1) (hg:wr.heap.size≤gn) (hgn:w.heap.size≤gn) (hO:ja w1 gn 2 (jc r)):
  JT w (w1.setCell ⟨g,k,none⟩ (.slice (some ⟨gn,0,none⟩) n n)) g n M (k+1) (R++[(gn,n,r)]):=by
 have hkl:k<M.length:=(List.getElem?_eq_some_iff.1 hk).1;have hR:=h.len (by omega);have hglt:=h.own.lt;refine⟨?_,?_,?_,?_,?_⟩
 ·have:=(h.own.below hb hglt).put k (.slice (some ⟨gn,0,none⟩) n n)
  rw[List.set_append_right _ _ (by simp[hR]),show M.length-k=(M.length-(k+1))+1 by omega,List.replicate_succ,List.length_map,hR,Nat.sub_self,List.set_cons_zero] at this;rw[List.map_append,List.append_assoc];exact this
 ·intro x hx
  rcases List.mem_append.1 hx with hx | hx
  ·have:=h.rows x hx
   have hxl:=this.1.lt
   exact⟨(this.1.below hb hxl).other (p:=⟨g,k,none⟩) (fun e=>by
    have h1:=this.1;have h2:=h.own;unfold ja at h1 h2;rw[show x.1=g from e] at h1;rw[h2] at h1
    injection h1 with h1
    injection h1 with _ h1
    exact absurd h1 (by decide)) _,this.2⟩
  ·obtain rfl:=List.mem_singleton.1 hx
   exact⟨hO.other (p:=⟨g,k,none⟩) (fun e=>by simp at e;omega) _,hl,Nat.le_refl _,hn⟩
 ·intro x hx
  rcases List.mem_append.1 hx with hx | hx
  ·exact h.new x hx
  ·obtain rfl:=List.mem_singleton.1 hx;exact hgn
 ·rw[List.map_append,List.nodup_append]
  refine⟨h.apart,by simp,fun a ha b hb'=> ?_⟩;obtain⟨x,hx,rfl⟩:=List.mem_map.1 ha;simp at hb';have:=(h.rows x hx).1.lt;omega
 ·rw[List.map_append,h.vals,List.take_add_one,hk];rfl
theorem Bf (v:Value) (M:List (List Int)) (w:World) (hv:yV w v M):
  Calls Tryz.prog 209 #[v,.func (.func 210) #[] #[]] w (Ce M w):=by
 obtain⟨vs,hs,hvl,hrow⟩:=hv;obtain⟨A,c,rfl,hc1,hc2⟩:=hs.form;have HROW:=Lib.hid hrow;clear hrow;rw[hvl] at hc1 hs ⊢;by_cases hbig:256<M.length
 ·have HE:Hid (kM M=5):=Lib.hid (by unfold kM;rw[if_pos hbig])
  have hbi:(256:Int)<(M.length:Int):=by omega
  clear hs;go_enter Tryz.func209,Tryz.ntmps209
  go_wp2
  go_ret2;exact⟨Below.refl _ _,.inr ⟨by rw[HE.out];decide,by rw[HE.out];rfl⟩⟩
 ·have hbi:¬(256:Int)<(M.length:Int):=by omega
  obtain⟨n,hn⟩:∃n,n=(M[0]?.map (·.length)).getD 0:=⟨_,rfl⟩
  have HN:=Lib.hid hn;have HME:Hid (kM M=yM n M):=Lib.hid (by unfold kM;rw[if_neg hbig,hn]);clear hn;have hmk:=NA w M.length (by omega);have HO:=Lib.hid (ja.make w 192 (List.replicate M.length jr));have hB0:Below w.heap.size w (w.alloc (.cells (List.replicate M.length jr).toArray 192)):=(Below.refl _ _).alloc (Nat.le_refl _) _;go_enter Tryz.func209,Tryz.ntmps209
  go_wp2_with fail
  go_loopg [18] M.length (fun gh i wr=>∃(k:Nat) (R:List jS),i = .int .i64 k∧k+gh=M.length∧Hid (yM n M=yM n (M.drop k))∧Hid (JT w wr w.heap.size n M k R)∧Below w.heap.size w wr)
  case atStart=>exact⟨0,[],rfl,by omega,Lib.hid rfl,Lib.hid ⟨by simpa using HO.out,by simp,by simp,by simp,by simp⟩,hB0⟩
  case round=>
   clear hmk HO hB0;obtain⟨k,R,rfl,hk,hE,hT,hB⟩:=hrel
   cases gk with
   | zero=>
    have hkl:k=M.length:=by omega
    have hin:¬((k:Int)<(M.length:Int)):=by omega
    have HR:Hid (kM M=0):=Lib.hid (by rw[HME.out,hE.out,hkl,List.drop_length];rfl)
    have HMX:Hid (kd wr w.heap.size R n∧R.map (·.2.2)=M):=Lib.hid (by
     have h:=hT.out;rw[hkl] at h
     exact⟨⟨by have:=h.own;simpa using this,h.rows,h.apart⟩,by rw[h.vals,List.take_length]⟩)
    have HNW:=Lib.hid hT.out.new;clear hE hT hk hkl
    go_wp2
    go_ret2;exact⟨hB,.inl ⟨HR.out,_,R,rfl,Nat.le_refl _,HNW.out,HN.out ▸ HMX.out.1,HMX.out.2⟩⟩
   | succ gh=>
    have hlt:k<M.length:=by omega
    have hlt':(k:Int)<(M.length:Int):=by omega
    obtain⟨r,hr⟩:∃r,M[k]? =some r:=⟨M[k],List.getElem?_eq_getElem hlt⟩
    obtain⟨r0,hr0⟩:∃r,M[0]? =some r:=⟨M[0]'(by omega),List.getElem?_eq_getElem _⟩
    have hn0:r0.length=n:=by rw[HN.out,hr0];rfl
    obtain⟨u,hu,hus⟩:=HROW.out k r hr;obtain⟨u0,hu0,hus0⟩:=HROW.out 0 r0 hr0;obtain⟨b0,off,hA,hbb,hcell⟩:=hs.at_ (k:=k) (by omega);have hc1':=(hB.cell (p:=⟨b0,off+k,none⟩) hbb).trans ((hcell k (by omega)).trans hu);have hc0':=(hB.cell (p:=⟨b0,off,none⟩) hbb).trans ((hcell 0 (by omega)).trans hu0);obtain⟨A1,k1,rfl,hk1,hk2⟩:=hus.form;obtain⟨A0,k0,rfl,hk3,hk4⟩:=hus0.form;simp only[jQ] at hk1 hk3 hus hc1' hc0';rw[hn0] at hc0';have HD:=Lib.hid (Cb n k M hr);have Hk:=Lib.hid hk;have Hr:=Lib.hid hr;have CV:=Lib.hid (fun (hl:r.length≤1000000) W (hw:Below w.heap.size w W)=>R3 (.slice A1 r.length k1) r W (hus.below hw) hl);subst hA;clear hu hu0 hus hus0 hcell hr hr0 hn0 hk hc1 hs;by_cases h1:256<r.length
    ·have hr1:(256:Int)<(r.length:Int):=by omega
     have HR:Hid (kM M=5):=Lib.hid (by rw[HME.out,hE.out,HD.out,if_pos h1])
     go_wp2
     go_ret2;exact⟨hB,.inr ⟨by rw[HR.out];decide,by rw[HR.out];rfl⟩⟩
    ·have hr1:¬(256:Int)<(r.length:Int):=by omega
     by_cases h2:r.length=n
     ·subst h2
      have CV2:=Lib.hid (CV.out (by omega) wr hB);have hgl:=hT.out.own.lt
      have hck:=(hT.out.own.cell k).trans (show _=some jr by
       rw[List.getElem?_append_right (by rw[List.length_map,hT.out.len (by omega)];exact Nat.le_refl _),List.length_map,hT.out.len (by omega),Nat.sub_self,List.getElem?_replicate,if_pos (by omega)])
      have hfk:=hT.out.own.free k
      have hrn:r.length≤256:=by omega
      go_wp2_with fail
      refine CV2.out.mono ?_;rintro e w1 ⟨hB1,⟨hib,gn,rfl,hg,hO1⟩ | ⟨hib,rfl⟩⟩
      ·have hck1:=(hB1.cell (p:=⟨w.heap.size,k,none⟩) hgl).trans hck
       have hfk1:=(hB1.frozen (p:=⟨w.heap.size,k,none⟩) hgl).trans hfk;have HT2:=Lib.hid (hT.out.step Hr.out rfl (by omega) hB1 hg (Nat.le_trans hB.size hg) hO1);have HE2:Hid (yM r.length M=yM r.length (M.drop (k+1))):=Lib.hid (by rw[hE.out,HD.out,if_neg h1,if_neg (by simp),if_pos hib]);have HB2:=Lib.hid ((hB.trans (hB1.mono hB.size)).setCell (p:=⟨w.heap.size,k,none⟩) (Nat.le_refl _) (.slice (some ⟨gn,0,none⟩) r.length r.length));clear hT hE hck hfk hib hO1
       go_wp2
       go_roundg gh
       case rel=>exact⟨k+1,R++[(gn,r.length,r)],by go_num,by have:=Hk.out;omega,HE2,HT2,HB2.out⟩
       case measure=>omega
      ·have hck1:=(hB1.cell (p:=⟨w.heap.size,k,none⟩) hgl).trans hck
       have hfk1:=(hB1.frozen (p:=⟨w.heap.size,k,none⟩) hgl).trans hfk;have HR:Hid (kM M=3):=Lib.hid (by rw[HME.out,hE.out,HD.out,if_neg h1,if_neg (by simp),if_neg hib]);have HB2:=Lib.hid ((hB.trans (hB1.mono hB.size)).setCell (p:=⟨w.heap.size,k,none⟩) (Nat.le_refl _) jr);clear hT hE hck hfk hib
       go_wp2
       go_ret2;exact⟨HB2.out,.inr ⟨by rw[HR.out];decide,by rw[HR.out];rfl⟩⟩
     ·have hr2:((r.length:Int) != (n:Int))=true:=by simp;omega
      have HR:Hid (kM M=2):=Lib.hid (by rw[HME.out,hE.out,HD.out,if_neg h1,if_pos h2])
      go_wp2
      go_ret2;exact⟨hB,.inr ⟨by rw[HR.out];decide,by rw[HR.out];rfl⟩⟩
