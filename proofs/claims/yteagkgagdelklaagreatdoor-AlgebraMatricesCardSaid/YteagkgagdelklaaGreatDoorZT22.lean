/- Contracts: lists of rational numbers are written. -/
import Derived.Test.YteagkgagdelklaaGreatDoorZT21
import Derived.Test.YteagkgagdelklaaGreatDoorZT20
set_option maxRecDepth 100000
set_option maxHeartbeats 4000000
namespace Go.Proofs.YteagkgagdelklaaGreatDoor
open Go.RowKit Go.Lib
theorem ZA:(Tryz.prog.info? 37).map (fun i=>(i.zero,i.size,i.bytes))=some (some (.string ⟨#[]⟩),1,16):=by kernel_rfl
theorem Ow (n:Nat):jN (List.replicate n [])=List.replicate n (.string ⟨#[]⟩):=by simp[jN,sv]
theorem BE (w:World) (n:Nat) (hn:n≤1000000):(Instr.makeSlice 50 (.int .i64 (n:Int)) (.int .i64 (n:Int))).run Tryz.prog w = .ok (.slice (some ⟨w.heap.size,0,none⟩) n n) (w.alloc (.cells (jN (List.replicate n [])).toArray 37)):=by
 have:=run_make_row' (P:=Tryz.prog) 50 37 (.string ⟨#[]⟩) 16 Tryz.underlying50 ZA rfl .i64 .i64 n (by omega) (by omega) w;rw[JG] at this;rw[Ow];exact this
def zQ (L:List Rat) (k:Nat):List jl:=(L.take k).map jh++List.replicate (L.length-k) []
theorem Py (L:List Rat) (k:Nat) (h:k≤L.length):(zQ L k).length=L.length:=by simp[zQ];omega
theorem Pz (L:List Rat) (k:Nat) (h:k<L.length):(zQ L k).set k (jh (L[k]?.getD 0))=zQ L (k+1):=by
 unfold zQ;rw[Qa5,Qaa h,QaQ,QbN _ _ (by simp;omega),show L.length-k=(L.length-(k+1))+1 by omega,Qa6,Qar,Qak,QaJ (by omega),QbE,Qaq,QaV];rfl
theorem Ox (L:List jl) (k:Nat) (l:jl):(jN L).set k (.string ⟨l.toArray⟩)=jN (L.set k l):=by simp[jN,List.map_set,sv]
def E9 (L:List Rat) (w:World) (e:Ending) (w':World):Prop:=
 Below w.heap.size w w'∧(((∀q∈L,¬k8 q) ∧ ∃g,e = .returned (.tuple #[.slice (some ⟨g,0,none⟩) L.length L.length,.int .i64 0])∧w.heap.size≤g∧ja w' g 37 (jN (L.map jh)))∨((∃q∈L,k8 q)∧e = .returned (.tuple #[jn,.int .i64 4])))
theorem Nj (b n c:Nat) (es:List El) (L:List Rat) (w:World) (hO:jq w b es L) (hn:n=L.length) (hl:n≤1000000) (_hc:n≤c) (hF:∀q∈L,kI q) (hG:jK w):
  Calls Tryz.prog 108 #[.slice (some ⟨b,0,none⟩) n c,.func (.func 45) #[] #[]] w (E9 L w):=by
 have hmk:=BE w n hl;have HB:=hid (ja.make w 37 (jN (List.replicate n [])));have HN:=hid hn;have HR:=hid hO;have HF:=hid hF;have HG:=hid hG;clear hn hO hF hG;go_enter Tryz.func108,Tryz.ntmps108
 go_wp2_with fail
 clear hmk
 go_loopg [15] n (fun gh i wr=>∃k:Nat,i = .int .i64 k∧k+gh=n∧Hid (∀q∈L.take k,¬k8 q)∧Hid (ja wr w.heap.size 37 (jN (zQ L k)))∧Hid (Below w.heap.size w wr))
 case atStart=>exact⟨0,rfl,by omega,hid (by simp),hid (by have:=HB.out;rw[HN.out] at this ⊢;simpa [zQ] using this),hid ((Below.refl _ _).alloc (Nat.le_refl _) _)⟩
 case round=>
  clear HB;obtain⟨k,rfl,hk,hI,hO,hB⟩:=hrel
  cases gk with
  | zero=>
   have hkl:k=n:=by omega
   have hin:¬((k:Int)<(n:Int)):=by omega
   have HI:=hid (show ∀q∈L,¬k8 q by have:=hI.out;rwa [hkl,HN.out,Qad (Nat.le_refl _)] at this);have HO:=hid (show ja wr w.heap.size 37 (jN (L.map jh)) by have:=hO.out;rw[hkl,HN.out] at this;simpa [zQ] using this);clear hkl hI hO hk
   go_wp2
   go_ret2;exact⟨hB.out,.inl ⟨HI.out,_,by rw[←HN.out];rfl,Nat.le_refl _,HO.out⟩⟩
  | succ gh=>
   have hlt:k<n:=by omega
   have hlt':(k:Int)<(n:Int):=by omega
   have hltL:k<L.length:=by rw[←HN.out];exact hlt
   obtain⟨q,hq⟩:∃q,L[k]? =some q:=⟨L[k],Qaa hltL⟩
   obtain⟨e,A1,n1,c1,A2,n2,c2,zz0,hee,hrt,y0,y1,y2,zz1,zz2,zz3⟩:=(HR.out.below hB.out).at_ (j:=k) hltL;clear zz0 zz1 zz2 zz3;obtain⟨e0,ea,eb⟩:=e
   have hea:ea = .slice A1 n1 c1∧eb = .slice A2 n2 c2:=by simpa using hee
   obtain⟨rfl,rfl⟩:=hea;clear hee;unfold qk at hrt;dsimp only at y0 hrt;have hbl:b<wr.heap.size:=(HR.out.below hB.out).own.lt;have hqF:=HF.out q (Qab hq);have hck2:=(hO.out.cell k).trans (JM _ k (by rw[Py L k (by omega)];omega));have hfr:=hO.out.free k;have hol:=hO.out.lt;have Hs:=hid (Pz L k hltL);have Ht:Hid (L.take (k+1)=L.take k++[q]):=hid (by rw[Qa5,hq];rfl);have Hm:Hid (q∈L):=hid (Qab hq);have Hk:=hid hk
   have hqe:L[k]?.getD 0=q:=by rw[hq];rfl
   rw[hqe] at hrt Hs;have hal:Below wr.heap.size wr (wr.alloc (.cells #[.bool e0,.slice A1 n1 c1,.slice A2 n2 c2] 69)):=(Below.refl _ _).alloc (Nat.le_refl _) _;have WR:=hid (YI (.agg #[.bool e0,.slice A1 n1 c1,.slice A2 n2 c2]) q _ (hrt.below hal) hqF.1 hqF.2 (HG.out.below (hB.out.trans (hal.mono hB.out.size))));generalize (zQ L k)[k]?.getD []=y at *;unfold sv at hck2;clear hq hqF hqe hk hrt hal
   go_wp2_with fail
   refine WR.out.mono ?_;clear WR;rintro e w1 ⟨rfl,hB1⟩;have hB15:Below wr.heap.size wr w1:=((Below.refl wr.heap.size wr).alloc (Nat.le_refl _) _).trans (hB1.mono (by simp));have hck3:=(hB15.cell (p:=⟨w.heap.size,k,none⟩) hol).trans hck2;have hfr3:=(hB15.frozen (p:=⟨w.heap.size,k,none⟩) hol).trans hfr;have hol3:w.heap.size<w1.heap.size:=Qac hol hB15.size;by_cases hlong:k8 q
   ·rw[Q8 hlong]
    have HX:Hid (∃q∈L,k8 q):=hid ⟨q,Hm.out,hlong⟩;have HB2:=hid ((hB.out.trans (hB15.mono hB.out.size)).setCell (p:=⟨w.heap.size,k,none⟩) (Nat.le_refl _) (.string ⟨#[]⟩));clear hlong hB1 hB15 hO hB hI y0 y1 y2 hck2 hfr
    go_wp2
    go_ret2;exact⟨HB2.out,.inr ⟨HX.out,rfl⟩⟩
   ·rw[JN hlong]
    have HI2:Hid (∀q∈L.take (k+1),¬k8 q):=hid (by
     rw[Ht.out];intro z hz;rcases List.mem_append.1 hz with h | h
     ·exact hI.out z h
     ·rw[List.mem_singleton.1 h];exact hlong)
    have HO2:Hid (ja (w1.setCell ⟨w.heap.size,k,none⟩ (.string ⟨(jh q).toArray⟩)) w.heap.size 37 (jN (zQ L (k+1)))):=hid (by
     rw[←Hs.out,←Ox];exact(hO.out.below hB15 hol).put _ _)
    have HB2:=hid ((hB.out.trans (hB15.mono hB.out.size)).setCell (p:=⟨w.heap.size,k,none⟩) (Nat.le_refl _) (.string ⟨(jh q).toArray⟩));clear hlong hB1 hB15 hO hB hI y0 y1 y2 hck2 hfr Hs;generalize jh q=tx at *
    go_wp2
    go_roundg gh
    case rel=>exact⟨k+1,by go_num,by have:=Hk.out;omega,HI2,HO2,HB2⟩
    case measure=>omega
theorem Rb (b n c:Nat) (es:List El) (L:List Rat) (w:World) (hO:jq w b es L) (hn:n=L.length) (hl:n≤1000000) (_hc:n≤c) (hF:∀q∈L,kI q) (hG:jK w):
  Calls Tryz.prog 63 #[.slice (some ⟨b,0,none⟩) n c] w (E9 L w):=by
 have CW:=hid (Nj b n c es L w hO hn hl _hc hF hG);clear hO hn hF hG;go_enter Tryz.func63,Tryz.ntmps63
 go_wp2_with fail
 refine CW.out.mono ?_;rintro e w1 ⟨hB1,⟨hok,g,rfl,hg,hO1⟩ | ⟨hno,rfl⟩⟩
 ·have HO:=hid hO1
  have HK:=hid hok;clear hO1 hok CW
  go_wp2
  go_ret2;exact⟨hB1,.inl ⟨HK.out,g,rfl,hg,HO.out⟩⟩
 ·have HK:=hid hno
  clear hno CW
  go_wp2
  go_ret2;exact⟨hB1,.inr ⟨HK.out,rfl⟩⟩
theorem Jc (L:List Nat) (k x:Nat):(jm L).set k (.int .i64 (x:Int))=jm (L.set k x):=by simp[jm,List.map_set]
theorem ZT (n:Nat):jm (List.replicate n 0)=je (List.replicate n 0):=by simp[jm,je]
theorem Dg.of_trim {w:World} {A:Option Addr} {c:Nat} {ws:List Nat} (hok:jI ws) (h:jD w (.slice A (jH ws).length c) (jm (jH ws))):Dg w (.slice A (jH ws).length c) (jb ws):=
 ⟨jH ws,YZ ws,Vu hok,YJ ws,h⟩
theorem Yy {w:World} {g:Nat} {L:List Nat} (n:Nat) (hn:n=L.length) (hO:ja w g 3 (jm L)) (hok:jI L) (hs:n≤140737488355328):
  Calls Tryz.prog 187 #[.slice (some ⟨g,0,none⟩) n n] w fun e w'=>∃v,e = .returned v∧Dg w v (jb L)∧w=w':=by
 subst hn;have h:=Yz (some ⟨g,0,none⟩) L.length L w (hO.sl _ (by rw[kh]) hs).wide
 exact h.mono fun e w' ⟨h1,h2,h3⟩=>⟨_,h1,Dg.of_trim hok h2,h3⟩
def NJ (x d:Nat) (w:World) (e:Ending) (w':World):Prop:=∃v,e = .returned (.tuple #[v,.int .i64 ((x%d:Nat):Int)])∧Dg w' v (x/d)∧Below w.heap.size w w'
theorem VS (v:Value) (x d:Nat) (w:World) (hv:Dg w v x) (hd0:0<d) (hd:d<1000000000) (hx:jQ x):
  Calls Tryz.prog 186 #[v,.int .i64 d] w (NJ x d w):=by
 obtain⟨p,A,c,rfl,e1,o1,n1,l1,l2,s1⟩:=hv.open_
 have hdI:(0:Int)<(d:Int):=by omega
 have hdI2:(d:Int)<1000000000:=by omega
 have hl6:=hx.len n1 e1;have hmk:=J7 w p.length (by omega);clear hx;have HO0:Hid (ja (w.alloc (.cells (je (List.replicate p.length 0)).toArray 3)) w.heap.size 3 (jm (List.replicate p.length 0))):=hid (by rw[ZT];exact ja.make _ _ _);have HB0:Hid (Below w.heap.size w (w.alloc (.cells (je (List.replicate p.length 0)).toArray 3))):=hid ((Below.refl _ _).alloc (Nat.le_refl _) _);have HST:=hid (zS.start p d hd0);have HS:=hid s1;have HOK:=hid o1;have HE1:=hid e1;have HD0:=hid hd0;have HD:=hid hd;clear s1 o1 e1 hv n1 hd0 hd;go_enter Tryz.func186,Tryz.ntmps186
 go_wp2_with fail
 go_loopg [7,8,9] p.length (fun g r i _ wr=>∃(L:List Nat) (rr:Nat),i = .int .i64 ((g:Int)-1)∧r = .int .i64 (rr:Int)∧g≤p.length∧Hid (zS p L d g rr)∧Hid (ja wr w.heap.size 3 (jm L))∧Hid (Below w.heap.size w wr))
 case atStart=>exact⟨_,0,by go_num,rfl,Nat.le_refl _,HST,HO0,HB0⟩
 case round=>
  obtain⟨L,rr,rfl,rfl,hg,hI,hO,hB⟩:=hrel;clear HO0 HB0 HST hmk
  cases gk with
  | zero=>
   have hin:¬((0:Int)≤((0:Nat):Int)-1):=by omega
   have HV:=hid hI.out.last;have TR:=hid (Yy p.length hI.out.1.symm hO.out hI.out.2.1 l2);rw[HV.out.1,HE1.out] at TR;have HR:Hid (rr=jb p%d):=hid HV.out.2;rw[HE1.out] at HR;clear hI HV
   go_wp2_with fail
   refine TR.out.mono ?_;rintro e w2 ⟨qv,rfl,hq,rfl⟩;have HQ:=hid hq;clear hq
   go_wp2
   go_ret2;exact⟨qv,by rw[HR.out];rfl,HQ.out,hB.out⟩
  | succ k=>
   have hlt:k<p.length:=by omega
   obtain⟨b1,off1,rfl,hbb1,hcell1⟩:=HS.out.at_ (k:=k) (by rw[kh];omega);have hck1:=(hB.out.cell (p:=⟨b1,off1+k,none⟩) hbb1).trans ((hcell1 k (by rw[kh];omega)).trans (qq p k hlt));have hL:L.length=p.length:=hI.out.1;have hrr:rr<d:=hI.out.2.2.1;have hx9:p[k]?.getD 0<1000000000:=kR HOK.out k;have HN:=hid (hI.out.step hlt HD0.out (NU hrr hx9));have hck2:=(hO.out.cell k).trans (qq L k (by omega));have hf2:=hO.out.free k;have hwl:=hO.out.lt;have hb1:b1<wr.heap.size:=Qac hbb1 hB.out.size;clear hcell1 hI;generalize p[k]?.getD 0=s at *;generalize L[k]?.getD 0=y at *
   have hrI:(rr:Int)<1000000000:=by have:=HD.out;omega
   have hsI:(s:Int)<1000000000:=by omega
   clear hrr hx9
   have Q1:((rr:Int)*1000000000+(s:Int))/(d:Int)=(((rr*B9+s)/d:Nat):Int):=by rw[Qbn,QaG,QaM];rfl
   have Q2:((rr:Int)*1000000000+(s:Int))%(d:Int)=(((rr*B9+s)%d:Nat):Int):=by rw[Qce,QaG,QaM];rfl
   generalize (rr*B9+s)/d=qd at *;generalize (rr*B9+s)%d=rd at *;have HO2:Hid (ja (wr.setCell ⟨w.heap.size,k,none⟩ (.int .i64 (qd:Int))) w.heap.size 3 (jm (L.set k qd))):=hid (by rw[←Jc];exact hO.out.put _ _);have HB2:=hid (hB.out.setCell (p:=⟨w.heap.size,k,none⟩) (Nat.le_refl _) (.int .i64 (qd:Int)));have HQ1:=hid Q1;have HQ2:=hid Q2;clear Q1 Q2
   go_wp2
   rw[HQ1.out,HQ2.out]
   go_roundg k
   case rel=>exact⟨_,rd,by go_num,rfl,by omega,HN,HO2,HB2⟩
   case measure=>omega
def Qq (x y:Nat) (w:World) (e:Ending) (w':World):Prop:=∃q r,e = .returned (.tuple #[q,r])∧Dg w' q (x/y)∧Dg w' r (x%y)∧Below w.heap.size w w'
theorem Dg.nil {w:World} :Dg w (.slice none 0 0) 0:=⟨[],rfl,KA,rfl,none,0,rfl,by simp[jm],by simp[jm],fun h=>by simp[jm] at h⟩
theorem Dg.size_ {w:World} {v:Value} {x:Nat} (h:Dg w v x):∃A n c,v = .slice A n c∧n≤140737488355328:=by
 obtain⟨p,A,c,rfl,_,_,_,_,h2,_⟩:=h.open_;exact⟨A,_,c,rfl,h2⟩
theorem NQ (v u:Value) (x y:Nat) (w:World) (hv:Dg w v x) (hu:Dg w u y) (hlt:x<y):
  Calls Tryz.prog 156 #[v,u] w (Qq x y w):=by
 have CD:=hid (Qm v u x y w hv hu);rw[JI hlt] at CD;obtain⟨A,n,c,rfl,_⟩:=hv.size_;obtain⟨B,m,d,rfl,_⟩:=hu.size_
 have HF:Hid (∀w':World,Below w.heap.size w w'→Qq x y w (.returned (.tuple #[.slice none 0 0,.slice A n c])) w'):=hid (fun w' hB=>by
  refine⟨_,_,rfl,?_,?_,hB⟩
  ·rw[Qbt hlt];exact Dg.nil
  ·rw[Qbm hlt];exact hv.below hB)
 clear hv hu hlt;go_enter Tryz.func156,Tryz.ntmps156
 go_wp2_with fail
 refine CD.out.mono ?_;rintro e w1 ⟨rfl,hB⟩
 go_wp2
 go_ret2;exact HF.out _ hB
theorem Dg.one {w:World} {v:Value} {y:Nat} (h:Dg w v y) (h0:0<y) (hy:y<B9):∃b off c,v = .slice (some ⟨b,off,none⟩) 1 c∧b<w.heap.size∧w.cell? ⟨b,off,none⟩=some (.int .i64 (y:Int)):=by
 obtain⟨p,A,c,rfl,e1,o1,n1,l1,l2,s1⟩:=h.open_;have hl:=Qj n1 (n:=1) (by rw[e1,Qbc];exact hy)
 have hl2:p.length=1:=by
  rcases QaA p.length with h2 | h2
  ·have:=List.length_eq_zero_iff.1 h2
   subst this;simp[jb] at e1;omega
  ·omega
 obtain⟨z,rfl⟩:=List.length_eq_one_iff.1 hl2
 have hz:z=y:=by simpa [jb] using e1
 subst hz;obtain⟨b,off,rfl,hb,hc⟩:=s1.at_ (k:=0) (by simp[jm]);exact⟨b,off,c,rfl,hb,by have:=hc 0 (by simp[jm]);simpa [jm] using this⟩
theorem Dg.lit {w:World} (r:Nat) (hr:r<B9):Calls Tryz.prog 187 #[.slice (some ⟨w.heap.size,0,none⟩) 1 1] (w.alloc (.cells #[.int .i64 (r:Int)] 3)) (fun e w'=>∃v,e = .returned v∧Dg (w.alloc (.cells #[.int .i64 (r:Int)] 3)) v r∧w.alloc (.cells #[.int .i64 (r:Int)] 3)=w'):=by
 have h:=Yy (w:=w.alloc (.cells #[.int .i64 (r:Int)] 3)) (g:=w.heap.size) (L:=[r]) 1 rfl (ja.make w 3 [.int .i64 (r:Int)]) (JX.2 hr) (by decide);simpa [jb] using h
theorem NL (v u:Value) (x y:Nat) (w:World) (hv:Dg w v x) (hu:Dg w u y) (hle:y≤x) (h0:0<y) (hy:y<B9) (hx:jQ x):
  Calls Tryz.prog 156 #[v,u] w (Qq x y w):=by
 have CD:=hid (Qm v u x y w hv hu);have ho:=Kb hle;obtain⟨A,n,c,rfl,_⟩:=hv.size_;obtain⟨b,off,d,rfl,hb,hcell⟩:=hu.one h0 hy;have HV:=hid hv;have HX:=hid hx;have H0:=hid h0;have HY:=hid hy;clear hv hu hx hle h0 hy;generalize kq x y=o at *;go_enter Tryz.func156,Tryz.ntmps156
 go_wp2_with fail
 refine CD.out.mono ?_;rintro e w1 ⟨rfl,hB⟩;have hck:=(hB.cell (p:=⟨b,off,none⟩) hb).trans hcell
 go_wp2_with fail
 refine(VS _ x y w1 (HV.out.below hB) H0.out HY.out HX.out).mono ?_;rintro e w2 ⟨qv,rfl,hq,hB2⟩;have HQ:=hid hq;have DL:=hid (Dg.lit (w:=w2) (x%y) (Nat.lt_trans (QaI _ H0.out) HY.out));have HBB:=hid ((hB.trans (hB2.mono hB.size)).alloc (hB.trans (hB2.mono hB.size)).size (.cells #[.int .i64 ((x%y:Nat):Int)] 3));obtain⟨QA,qn,qc,rfl,_⟩:=hq.size_;clear hq;generalize hrr:x%y=r at *;have HRR:=hid hrr;clear hrr
 go_wp2_with fail
 refine DL.out.mono ?_;rintro e w3 ⟨rv,rfl,hr,rfl⟩;have HR:=hid hr;obtain⟨RA,rn,rc,rfl,_⟩:=hr.size_;clear hr
 go_wp2
 go_ret2;refine⟨_,_,rfl,HQ.out.below ((Below.refl _ _).alloc (Nat.le_refl _) _),?_,HBB.out⟩;rw[HRR.out];exact HR.out
def XD (x:Nat) (w:World) (e:Ending) (w':World):Prop:=∃v,e = .returned v∧Dg w' v x∧Below w.heap.size w w'
theorem y9.zero {xs bs L L':List Nat} {k f c:Nat} (h:y9 xs bs L k) (ha:yS bs L L' f k bs.length c):L'[k+bs.length]?.getD 0=0:=by
 obtain⟨h1,h2,h3,h4⟩:=h;obtain⟨a1,a2,a3,a4,a5⟩:=ha
 have:L'.drop (k+bs.length)=List.replicate (xs.length-k) 0:=by rw[a3,h4]
 have e:(L'.drop (k+bs.length))[0]?.getD 0=L'[k+bs.length]?.getD 0:=by simp
 rw[←e,this,Qbk]
 split <;> rfl
theorem Ce (a b z c:Nat) (ha:a<B9) (hb:b<B9) (hz:z<B9) (hc:c<B9):a*b<1000000000000000000∧(z+a*b+c)/B9<B9∧(z+a*b+c)%B9+B9*((z+a*b+c)/B9)=z+c+b*a:=by
 have h1:a*b≤(B9-1)*(B9-1):=Qbh (by omega) (by omega);rw[Qam b a];generalize a*b=p at *;unfold B9 at *;omega
theorem KM (v u:Value) (x y:Nat) (w:World) (hv:Dg w v x) (hu:Dg w u y) (hx:jQ x) (hy:jQ y):
  Calls Tryz.prog 173 #[v,u] w (XD (x*y) w):=by
 obtain⟨p,A,c,rfl,e1,o1,n1,l1,l2,s1⟩:=hv.open_;obtain⟨q,B,d,rfl,e2,o2,n2,m1,m2,s2⟩:=hu.open_;have hp6:=hx.len n1 e1;have hq6:=hy.len n2 e2;have hmk:=J7 w (p.length+q.length) (by omega);rw[show ((p.length+q.length:Nat):Int)=(p.length:Int)+q.length from by omega] at hmk;have HO0:Hid (ja (w.alloc (.cells (je (List.replicate (p.length+q.length) 0)).toArray 3)) w.heap.size 3 (jm (List.replicate (p.length+q.length) 0))):=hid (by rw[ZT];exact ja.make _ _ _);have HB0:Hid (Below w.heap.size w (w.alloc (.cells (je (List.replicate (p.length+q.length) 0)).toArray 3))):=hid ((Below.refl _ _).alloc (Nat.le_refl _) _);have HS1:=hid s1;have HS2:=hid s2;have HOK1:=hid o1;have HOK2:=hid o2;have HE:Hid (jb p*jb q=x*y):=hid (by rw[e1,e2]);clear hv hu s1 s2 o1 o2 e1 e2 n1 n2 hx hy;go_enter Tryz.func173,Tryz.ntmps173
 go_wp2_with fail
 go_loopg [6,7,8,9] p.length (fun g i _ _ _ wr=>∃(k:Nat) (L:List Nat),i = .int .i64 (k:Int)∧k+g=p.length∧Hid (y9 p q L k)∧Hid (ja wr w.heap.size 3 (jm L))∧Hid (Below w.heap.size w wr))
 case atStart=>exact⟨0,_,rfl,by omega,hid (y9.start p q),HO0,HB0⟩
 case round=>
  obtain⟨k,L,rfl,hk,hI,hO,hB⟩:=hrel;clear HO0 HB0 hmk
  cases gk with
  | zero=>
   have hkk:k=p.length:=by omega
   subst hkk;have hl:L.length=p.length+q.length:=hI.out.1;have TR:=hid (Yy (p.length+q.length) hl.symm hO.out hI.out.2.1 (by omega));rw[hI.out.last,HE.out] at TR;clear hI hl hk
   go_wp2_with fail
   refine TR.out.mono ?_;rintro e w2 ⟨rv,rfl,hq,rfl⟩;have HQ:=hid hq;clear hq
   go_wp2
   go_ret;exact⟨rv,rfl,HQ.out,hB.out⟩
  | succ g=>
   have hlt:k<p.length:=by omega
   obtain⟨b1,off1,rfl,hbb1,hcell1⟩:=HS1.out.at_ (k:=k) (by rw[kh];omega);have hpk:=hid ((hcell1 k (by rw[kh];omega)).trans (qq p k hlt));have hak:=kR HOK1.out k;have hLl:L.length=p.length+q.length:=hI.out.1;have HST:=hid (fun L' c (h:yS q L L' (p[k]?.getD 0) k q.length c)=>hI.out.step hlt h);have HZ:=hid (fun L' c (h:yS q L L' (p[k]?.getD 0) k q.length c)=>hI.out.zero h);have HA0:=hid (yS.start (bs:=q) (p[k]?.getD 0) k hI.out.2.1);generalize p[k]?.getD 0=a at *;clear hcell1 hI
   go_wp2_with fail
   obtain⟨wo,rfl⟩:∃wo:World,wo=wr:=⟨_,rfl⟩
   go_loopg [7,8,9] q.length (fun h cr kk _ wr=>∃(m c:Nat) (L':List Nat),cr = .int .i64 (c:Int)∧kk = .int .i64 (m:Int)∧m+h=q.length∧Hid (yS q L L' a k m c)∧Hid (ja wr w.heap.size 3 (jm L'))∧Hid (Below w.heap.size w wr))
   case atStart=>exact⟨0,0,L,rfl,rfl,by omega,HA0,hO,hB⟩
   case round=>
    clear hO hB;obtain⟨m,cy,L',rfl,rfl,hm,hA,hO,hB⟩:=hrel;have hl':L'.length=L.length:=hA.out.1;have hcy:cy<B9:=hA.out.2.2.2.1
    cases gk with
    | zero=>
     have hmm:m=q.length:=by omega
     subst hmm;have hz:=HZ.out _ _ hA.out;have HN:=hid (HST.out _ _ hA.out);have hck:=(hO.out.cell (k+q.length)).trans (qq L' (k+q.length) (by omega));rw[hz] at hck;have hfr:=hO.out.free (k+q.length);have HO2:Hid (ja (wr.setCell ⟨w.heap.size,k+q.length,none⟩ (.int .i64 (cy:Int))) w.heap.size 3 (jm (L'.set (k+q.length) cy))):=hid (by rw[←Jc];exact hO.out.put _ _);have HB2:=hid (hB.out.setCell (p:=⟨w.heap.size,k+q.length,none⟩) (Nat.le_refl _) (.int .i64 (cy:Int)))
     have hcI:(cy:Int)<1000000000:=by unfold B9 at hcy;omega
     clear hA hz HZ HST
     go_wp2
     go_roundg g
     case rel=>exact⟨k+1,_,by go_num,by omega,HN,HO2,HB2⟩
     case measure=>omega
    | succ h=>
     have hmq:m<q.length:=by omega
     obtain⟨b2,off2,rfl,hbb2,hcell2⟩:=HS2.out.at_ (k:=m) (by rw[kh];omega);have hck1:=(hB.out.cell (p:=⟨b1,off1+k,none⟩) hbb1).trans hpk.out;have hck2:=(hB.out.cell (p:=⟨b2,off2+m,none⟩) hbb2).trans ((hcell2 m (by rw[kh];omega)).trans (qq q m hmq));have hck3:=(hO.out.cell (k+m)).trans (qq L' (k+m) (by omega));have hfr:=hO.out.free (k+m);have hbk:=kR HOK2.out m;have hzk:=kR hA.out.2.1 (k+m);have HN:=hid (fun d c' h1 h2 h3=>hA.out.step (d:=d) (c':=c') hmq (by omega) h1 h2 h3);generalize q[m]?.getD 0=b at *;generalize L'[k+m]?.getD 0=z at *;obtain⟨t1,t2,t3⟩:=Ce a b z cy hak hbk hzk hcy
     obtain⟨ab,hab⟩:∃ab,a*b=ab:=⟨_,rfl⟩
     rw[hab] at t1 t2 t3
     have hzI:(z:Int)<1000000000:=by clear t2 t3;unfold B9 at hzk;omega
     have hcI:(cy:Int)<1000000000:=by clear t2 t3;unfold B9 at hcy;omega
     have haI:(ab:Int)<1000000000000000000:=by clear t2 t3;omega
     have hzw:wrap64 ((a:Int)*(b:Int))=(ab:Int):=by rw[←QaM,hab];exact IntWalk.wrap64_in _ (by clear t2 t3;omega)
     have t4:(z+ab+cy)%B9<B9:=QaI _ (by decide);have HS:=hid (HN.out _ _ t4 t2 t3)
     have Q1:((z:Int)+(ab:Int)+(cy:Int))/1000000000=(((z+ab+cy)/B9:Nat):Int):=by rw[Qbn,QaG,QaG];rfl
     have Q2:((z:Int)+(ab:Int)+(cy:Int))%1000000000=(((z+ab+cy)%B9:Nat):Int):=by rw[Qce,QaG,QaG];rfl
     have hb1:b1<wr.heap.size:=Qac hbb1 hB.out.size;have hb2:b2<wr.heap.size:=Qac hbb2 hB.out.size;have hwl:=hO.out.lt;clear hab t1 t2 t3 t4 HN hA hcell2 hak hbk hzk hcy;generalize (z+ab+cy)/B9=qd at *;generalize (z+ab+cy)%B9=rd at *;have HQ1:=hid Q1;have HQ2:=hid Q2;clear Q1 Q2;have Hk:=hid hk;have Hm:=hid hm
     have hidx:(k:Int)+(m:Int)<(p.length:Int)+(q.length:Int):=by omega
     have hkI:(k:Int)<(p.length:Int):=by omega
     have hmI:(m:Int)<(q.length:Int):=by omega
     clear hk hm hLl hl' hlt hmq hbb1 hbb2 hpk
     go_wp2_with fail
     go_quiet (fail)
     have HO2:Hid (ja ((wr.drewN nq).setCell ⟨w.heap.size,k+m,none⟩ (.int .i64 (rd:Int))) w.heap.size 3 (jm (L'.set (k+m) rd))):=hid (by rw[←Jc];exact(hO.out.drewN nq).put _ _);have HB2:=hid ((below_drewN hB.out nq).setCell (p:=⟨w.heap.size,k+m,none⟩) (Nat.le_refl _) (.int .i64 (rd:Int)))
     go_wp2
     rw[HQ1.out,HQ2.out]
     go_roundg h
     case rel=>exact⟨m+1,qd,_,by go_num,by go_num,by have:=Hm.out;omega,HS,HO2,HB2⟩
     case measure=>omega
end Go.Proofs.YteagkgagdelklaaGreatDoor
namespace Go.Proofs.YteagkgagdelklaaGreatDoor
open Go.RowKit Go.Lib Go.Shelf
attribute [local go_sem] Oper.semAt_some
theorem P7 (n:Int) (h: -9223372036854775808≤n∧n≤9223372036854775807):IntKind.i64.wrap n=n:=by rw[IntKind.wrap_i64];omega
theorem Wo (p:List Int):∀(f:Nat) (s:List Bool) (i:Nat) (x:Int),x∈(kV p f s i).1→0≤x∧x<s.length
 | 0,s,i,x,h=>by simp[kV] at h
 | f+1,s,i,x,h=>by
  rw[kV] at h;split at h
  ·simp at h
  ·rename_i hs
   simp only[QbC] at h;rcases h with rfl | h
   ·have:i<s.length:=by
     rcases Qae i s.length with h | h
     ·exact h
     ·rw[Qah h] at hs;exact absurd rfl hs
    omega
   ·have:=Wo p f _ _ x h
    simpa using this
theorem Y6 (p:List Int):∀(k:Nat) (c:List Int),c∈(jZ p k).1 → ∀x∈c,0≤x∧x<p.length
 | 0,c,h=>by simp[jZ] at h
 | k+1,c,h=>by
  rw[jZ] at h;split at h
  ·exact Y6 p k c h
  ·simp only[Qby,Qb3] at h
   rcases h with h | rfl
   ·exact Y6 p k c h
   ·intro x hx
    have:=Wo p _ _ _ x hx
    rwa [XC] at this
theorem Wm (p:List Int):∀(f:Nat) (s:List Bool) (i:Nat),(kV p f s i).1.length≤f
 | 0,s,i=>by simp[kV]
 | f+1,s,i=>by
  rw[kV];split
  ·simp
  ·have:=Wm p f (s.set i true) (p[i]?.getD 0).toNat
   simpa using this
theorem Y7 (p:List Int):∀(k:Nat) (c:List Int),c∈(jZ p k).1→c.length≤p.length
 | 0,c,h=>by simp[jZ] at h
 | k+1,c,h=>by
  rw[jZ] at h;split at h
  ·exact Y7 p k c h
  ·simp only[Qby,Qb3] at h
   rcases h with h | rfl
   ·exact Y7 p k c h
   ·exact Wm p _ _ _
def zf (c:List Int) (t:Nat) (r:List Int):Nat→List Int
 | 0=>r
 | i+1=>(zf c t r i).set (c[i]?.getD 0).toNat (c[(i+t)%c.length]?.getD 0)
def QM (k:Int) (r:List Int) (c:List Int):List Int:=zf c (k%(c.length:Int)).toNat r c.length
def zg (p:List Int) (k:Int) (cs:List (List Int)):List Int:=cs.foldl (QM k) (List.replicate p.length 0)
def G4 (p:List Int) (k:Int):List Int:=zg p k (qY p)
theorem Ug (c:List Int) (t:Nat) (r:List Int):∀i,(zf c t r i).length=r.length
 | 0=>rfl
 | i+1=>by rw[zf,Qbz,Ug c t r i]
theorem G5 (p:List Int) (k:Int) (cs:List (List Int)):(zg p k cs).length=p.length:=by
 have h:∀(cs:List (List Int)) (r:List Int),(cs.foldl (QM k) r).length=r.length:=by
  intro cs
  induction cs with
  | nil=>intro r;rfl
  | cons c cs ih=>intro r;rw[List.foldl_cons,ih,QM,Ug]
 rw[zg,h,Qa8]
theorem Fu (p:List Int) (k:Int) (cs:List (List Int)) (c:List Int):zg p k (cs++[c])=QM k (zg p k cs) c:=by simp[zg]
theorem R5 (v:Value) (p:List Int) (k:Int) (w:World) (hv:Sl w 1 v (je p)):Calls Tryz.prog 21 #[v,.int .i64 k] w (Bv (ki p) (G4 p k) w):=by
 obtain⟨A,c,rfl,hc1,hc2⟩:=hv.form;simp only[ku] at hc1 hv ⊢;have CP:=hid (fun W h=>Q9 (.slice A p.length c) p W h);by_cases he:ki p=0
 ·have hPp:y4 p∧p.length≤256:=by unfold ki at he;split at he;omega;split at he;exact⟨by assumption,by omega⟩;omega
  have HV:=hid hv;have He:=hid he;obtain⟨hP,hl⟩:=hPp;have HP:=hid hP
  have hmk:=fun W=>J7 W p.length (by omega)
  clear hv he hP;refine(callsIn_wide (n:=4)).1 ?_;refine callsIn_of_wp_marks Tryz.func21 rfl trivial ?_ rfl;simp only[Tryz.ntmps21,List.size_toArray,QaR,QbA,Nat.reduceAdd,Nat.reduceSub,Array.replicate_succ,Array.replicate_zero,List.push_toArray,Qcq,Qbe,QbZ]
  gi_wp2_with (first | (refine⟨trivial,?_⟩;gi_at_call 54;refine(callsIn_wide.2 (CP.out _ (HV.out.alloc _))).mono ?_;rintro e w1 ⟨rfl,hB1⟩;rw[He.out]) | (refine⟨trivial,?_⟩;gi_at_call 56;refine(callsIn_wide.2 (Y8 _ _ _ _)).mono ?_;rintro e w2 ⟨rfl,rfl⟩))
  have hn1:=hB1.size;simp only[World.size_alloc] at hn1;have hK1:ja w1 w.heap.size 3 [.int .i64 k]:=(ja.make w 3 [.int .i64 k]).below hB1 (by simp);have hBw1:Below w.heap.size w w1:=((Below.refl _ w).alloc (Nat.le_refl _) _).trans (hB1.mono (by simp));have hHV:=(HV.out.alloc (.cells #[.int .i64 k] 3)).below hB1;clear hB1;have hal:Below w1.heap.size w1 (((w1.alloc (.cells (je (List.replicate p.length 0)).toArray 3)).alloc (.cells #[.slice (some ⟨w1.heap.size,0,none⟩) p.length p.length] 41)).alloc (.cells #[.slice A p.length c] 41)):=(((Below.refl _ w1).alloc (Nat.le_refl _) _).alloc (by simp) _).alloc (by simp;omega) _;have hOs:=((ja.make w1 3 (je (List.replicate p.length 0))).alloc (.cells #[.slice (some ⟨w1.heap.size,0,none⟩) p.length p.length] 41)).alloc (.cells #[.slice A p.length c] 41);have hOq:=(ja.make (w1.alloc (.cells (je (List.replicate p.length 0)).toArray 3)) 41 [.slice (some ⟨w1.heap.size,0,none⟩) p.length p.length]).alloc (.cells #[.slice A p.length c] 41);have hOb:=ja.make ((w1.alloc (.cells (je (List.replicate p.length 0)).toArray 3)).alloc (.cells #[.slice (some ⟨w1.heap.size,0,none⟩) p.length p.length] 41)) 41 [.slice A p.length c];simp only[World.size_alloc] at hOq hOb;have hsl:=hHV.below hal;have hBw:=hBw1.trans (hal.mono (by omega));have hKa:=hK1.below hal (by omega)
  have hsz:(((w1.alloc (.cells (je (List.replicate p.length 0)).toArray 3)).alloc (.cells #[.slice (some ⟨w1.heap.size,0,none⟩) p.length p.length] 41)).alloc (.cells #[.slice A p.length c] 41)).heap.size=w1.heap.size+3:=by simp
  obtain⟨w3,hw3⟩:∃w3,w3=(((w1.alloc (.cells (je (List.replicate p.length 0)).toArray 3)).alloc (.cells #[.slice (some ⟨w1.heap.size,0,none⟩) p.length p.length] 41)).alloc (.cells #[.slice A p.length c] 41)):=⟨_,rfl⟩
  rw[←hw3] at hal hOs hOq hOb hsl hsz hBw hKa ⊢;clear hw3 hmk;obtain⟨b0,off,hRd,hb0⟩:=yB.ofSl (Bp:=w1.heap.size+1+1) hsl (by omega)
  have hb0w:b0=w1.heap.size+1+1∨(p≠[]∧b0<w1.heap.size):=by
   rcases hb0 with h | h
   ·exact .inl h
   ·refine .inr ⟨h,?_⟩
    obtain⟨b,o,hA,hb,_⟩:=hHV.at_ (k:=0) (by rw[ku];exact List.length_pos_iff.2 h);have h1:=(hRd.2 0 _ (kz p 0 (List.length_pos_iff.2 h))).1;rw[hA] at h1;cases h1;exact hb
  refine Un (gf:=101) (lb:= #[.pointer (some ⟨w1.heap.size+1+1,0,none⟩)]) (xs:=qY p) (Pr:=JT) (Kp:=yi (w1.heap.size+1+1) b0) rfl (enters_of Tryz.func101 (by kernel_rfl) rfl)
   (fun W hW hs=>Y9 p A c (w1.heap.size+1+1) b0 off HP.out hl W ((hW.cell (p:=⟨w1.heap.size+1+1,0,none⟩) (by simp;omega)).trans (hOb.cell 0)) (by omega) (hRd.same hW.size (hW.block b0 (by rcases hb0w with h | h <;> omega)))) rfl
   (fun pre A=>ja A w1.heap.size 3 (je (zg p k pre))∧ja A (w1.heap.size+1) 41 [.slice (some ⟨w1.heap.size,0,none⟩) p.length p.length]∧ja A w.heap.size 3 [.int .i64 k]∧Below w.heap.size w A)
   (fun pre A A' h hb=>⟨h.1.but hb (by omega),h.2.1.but hb (by omega),h.2.2.1.but hb (by omega),h.2.2.2.trans (hb.toBelow (by omega) h.2.2.2.size)⟩)
   (fun pre A l o h hl _=>⟨h.1.putObjQ (by omega) o,h.2.1.putObjQ (by omega) o,h.2.2.1.putObjQ (by omega) o,Below.putObjQ h.2.2.2 (by omega) o⟩)
   (fun A B C h k=>h.trans k) (fun A o hlt=>yi.putObjQ _ _ _ _ A o (by omega) (by omega) (by rcases hb0w with h | h <;> omega))
   (fun x v A o hlt h=>h.putObjQ (by omega) o)
   (fun o1 o2=>⟨(hOs.alloc _).alloc _,(hOq.alloc _).alloc _,(hKa.alloc _).alloc _,(hBw.alloc (by omega) _).alloc (by simp;omega) _⟩)
   (fun v=> { tmps:= #[.slice A p.length c,.int .i64 k,undef,.pointer (some ⟨w.heap.size,0,none⟩),.slice none 0 0,.int .i64 0,.int .i64 0,.pointer (some ⟨w1.heap.size+1,0,none⟩),v,undef,undef,undef,undef,.slice A p.length c,.int .i64 0,.int .i64 0,.bool false,undef,.slice A p.length c,.int .i64 p.length,.slice (some ⟨w1.heap.size,0,none⟩) p.length p.length,.slice A p.length c,.func (.func 101) #[] #[.pointer (some ⟨w1.heap.size+1+1,0,none⟩)],v,undef,undef,undef,undef,undef,undef,undef,undef,undef,undef,undef,undef,undef,undef,undef,undef,undef,undef,undef,undef,undef,undef,undef,undef,undef,undef,undef,undef,undef],defers:=[] })
   ?assign ?body ?done
  case assign=>
   intro l v W K hK
   gi_wp2
   exact hK
  case body=>
   rintro l pre x post v A' hx ⟨hO,hQ,hK,hB⟩ hlt ⟨base,hb1,hb2,hrow,hne⟩;obtain⟨A2,c2,rfl,hc3,hc4⟩:=jX hrow;have hpe:=VJ hx;have hxm:∀y∈x,0≤y∧y<p.length:=Y6 p p.length x (by rw[show (jZ p p.length).1=qY p from rfl,hx];simp);have hxl:x.length≤256:=Qap (Y7 p p.length x (by rw[show (jZ p p.length).1=qY p from rfl,hx];simp)) hl
   have hb0':b0≠w1.heap.size:=by
    rcases hb0w with h | h
    ·omega
    ·omega
   have hn0:0<x.length:=List.length_pos_iff.2 hne;unfold maxLen at hc4
   have hnz:((x.length:Int)==0)=false:=by simp;omega
   have hnz2:(x.length:Int)≠0:=by omega
   have hkc:A'.cell? ⟨w.heap.size,0,none⟩=some (.int .i64 k):=hK.cell 0;have hre:=MC k x.length (by omega) (by omega);have hem:=Qb7 k hnz2;have hel:=QbS k (show (0:Int)<x.length by omega);obtain⟨t,ht⟩:=Qa2 hem
   have htn:t<x.length:=by omega
   have hst:zg p k (pre++[x])=zf x t (zg p k pre) x.length:=by rw[Fu];unfold QM;rw[ht];rfl
   have hrl:(zg p k pre).length=p.length:=G5 p k pre;rw[ht] at hre;have HST:=hid hst;have HO:=hid hO;have HQ:=hid hQ;have HK:=hid hK;have HB:=hid hB;have HXM:=hid hxm;have HRW:=hid hrow;have HRE:=hid hre;have HRL:=hid hrl;clear hO hQ hK hB hrow hxm hst hem hel ht hre hrl hx hne;generalize hr0:zg p k pre=r0 at *;clear hr0
   gi_wp2
   rw[HRE.out];clear hnz hkc hnz2 HRE
   gi_loopg [35] x.length (fun gh ix wx=>∃j:Nat,ix = .int .i64 j∧j+gh=x.length∧Hid (ja wx w1.heap.size 3 (je (zf x t r0 j)))∧Hid (jk w1.heap.size A' wx))
   case atStart=>exact⟨0,rfl,by omega,HO,hid (jk.refl _ _)⟩
   case round=>
    obtain⟨j,rfl,hj,hOx,hBx⟩:=hrel
    cases gk with
    | zero=>
     have hin:¬((j:Int)<(x.length:Int)):=by omega
     have hjn:j=x.length:=by omega
     subst hjn
     gi_wp2
     have hbx:=hBx.out;have hO2:=hOx.out;rw[←HST.out] at hO2
     exact⟨hbx.block _ (by omega) (by omega),hbx.block _ (by omega) (by omega),⟨hO2,HQ.out.but hbx (by omega),HK.out.but hbx (by omega),HB.out.trans (hbx.toBelow (by omega) HB.out.size)⟩,
      hbx.size,hbx.block _ (by omega) (by omega),hbx.block _ (by omega) (by omega),hbx.block _ (by rcases hb0w with h | h <;> omega) hb0'⟩
    | succ gh=>
     have hlt:(j:Int)<(x.length:Int):=by omega
     have hjl:j<x.length:=by omega
     have hjt:(j+t)%x.length<x.length:=QaI _ hn0;obtain⟨g,rfl,hgb,hgl,hgc⟩:=Jf HRW.out hjl;have hc1:=(World.cell?_of_block (a:=⟨g,j,none⟩) (hBx.out.block g hgl (by omega))).trans ((hgc j hjl).trans (kz x j hjl));have hc2':=(World.cell?_of_block (a:=⟨g,(j+t)%x.length,none⟩) (hBx.out.block g hgl (by omega))).trans ((hgc _ hjt).trans (kz x _ hjt));have hq:wr.cell? ⟨w1.heap.size+1,0,none⟩=some (.slice (some ⟨w1.heap.size,0,none⟩) p.length p.length):=(HQ.out.but hBx.out (by omega)).cell 0;have hxj:=HXM.out (x[j]?.getD 0) (by rw[Qaa hjl];exact Qay hjl)
     have hnz2:(x.length:Int)≠0:=by omega
     have hne:¬x=[]:=List.length_pos_iff.1 hn0
     have hne2:¬x.length=0:=by omega
     have hwj:Hid (IntKind.i64.wrap ((j:Int)+(t:Int))=(j:Int)+(t:Int)):=hid (P7 _ (by omega));have hpr:zf x t r0 (j+1)=(zf x t r0 j).set (x[j]?.getD 0).toNat (x[(j+t)%x.length]?.getD 0):=rfl
     have htm:((j:Int)+(t:Int)).tmod (x.length:Int)=(((j+t)%x.length:Nat):Int):=by
      rw[Int.tmod_eq_emod_of_nonneg (by omega)];simp
     generalize (j+t)%x.length=jt at *;have hjt1:(jt:Int)<(x.length:Int):=Int.ofNat_lt.2 hjt;have hnz:((x.length:Int)==0)=false:=beq_eq_false_iff_ne.2 hnz2;have hOl:=hOx.out.lt;generalize x[j]?.getD 0=y at *;generalize x[jt]?.getD 0=z at *;obtain⟨m,rfl⟩:=Qa2 hxj.1
     have hm:m<p.length:=by omega
     rw[Qcl] at hpr;have hfr:=hOx.out.free m;have hcm:=hOx.out.cell m;rw[kz _ m (by rw[Ug,HRL.out];exact hm)] at hcm;generalize (zf x t r0 j)[m]?.getD 0=zz at *;have HPR:=hid hpr;have HTM:=hid htm;clear hpr hxj hgc htm
     gi_wp2
     have htm:=HTM.out;have HWJ:=hwj.out;clear hwj;refine PZ (F:=Fence.wide) (by kernel_rfl) (by kernel_rfl) ?_;refine wpAnyIn_take (i:=1) (v:= .int .i64 m) rfl rfl (by kernel_rfl) (by kernel_rfl) (by kernel_rfl) (fun _ _ _ h=>h) ⟨Or.inl ⟨by rfl,?_⟩,fun _=>rfl⟩ ?_
     ·intro w;go_simp;try exact HWJ
     refine wpAnyIn_take (i:=2) (v:= .slice (some ⟨g,0,none⟩) x.length c2) rfl rfl (by kernel_rfl) (by kernel_rfl) (by kernel_rfl) (fun _ _ _ h=>h) ⟨Or.inl ⟨by rfl,?_⟩,fun _=>rfl⟩ ?_
     ·intro w;go_simp;try exact HWJ
     refine wpAnyIn_take (i:=3) (v:= .int .i64 j) rfl rfl (by kernel_rfl) (by kernel_rfl) (by kernel_rfl) (fun _ _ _ h=>h) ⟨Or.inl ⟨by rfl,?_⟩,fun _=>rfl⟩ ?_
     ·intro w;go_simp;try exact HWJ
     refine wpAnyIn_take (i:=4) (v:= .int .i64 t) rfl rfl (by kernel_rfl) (by kernel_rfl) (by kernel_rfl) (fun _ _ _ h=>h) ⟨Or.inl ⟨by rfl,?_⟩,fun _=>rfl⟩ ?_
     ·intro w;go_simp;try exact HWJ
     refine wpAnyIn_take (i:=6) (v:= .int .i64 x.length) rfl rfl (by kernel_rfl) (by kernel_rfl) (by kernel_rfl) (fun _ _ _ h=>h) ⟨Or.inl ⟨by rfl,?_⟩,fun _=>rfl⟩ ?_
     ·intro w;go_simp;try exact HWJ
     refine wpAnyIn_take (i:=5) (v:= .int .i64 ((j:Int)+(t:Int))) rfl rfl (by kernel_rfl) (by kernel_rfl) (by kernel_rfl) (fun _ _ _ h=>h) ⟨Or.inl ⟨by rfl,?_⟩,fun _=>rfl⟩ ?_
     ·intro w;go_simp;try exact HWJ
     refine wpAnyIn_take (i:=7) (v:= .int .i64 jt) rfl rfl (by kernel_rfl) (by kernel_rfl) (by kernel_rfl) (fun _ _ _ h=>h) ⟨Or.inl ⟨by rfl,?_⟩,fun _=>rfl⟩ ?_
     ·intro w;go_simp;try exact HWJ
     refine wpAnyIn_take (i:=8) (v:= .pointer (some ⟨g,jt,none⟩)) rfl rfl (by kernel_rfl) (by kernel_rfl) (by kernel_rfl) (fun _ _ _ h=>h) ⟨Or.inl ⟨by rfl,?_⟩,fun _=>rfl⟩ ?_
     ·intro w;go_simp;try exact HWJ
     refine wpAnyIn_ready (rs:=[0,9]) (by kernel_rfl) (by simp) ?_;refine AllReadyIn.cons rfl (fun K hK=> ?_) (AllReadyIn.cons rfl (fun K hK=> ?_) AllReadyIn.nil)
     ·go_simp;refine hK _ _ ?_;clear hK K
      refine wpAnyIn_ready (rs:=[9]) (by kernel_rfl) (by simp) ?_;refine AllReadyIn.cons rfl (fun K hK=> ?_) AllReadyIn.nil
      go_simp;refine hK _ _ ?_;clear hK K
      refine wpAnyIn_ready (rs:=[10]) (by kernel_rfl) (by simp) ?_;refine AllReadyIn.cons rfl (fun K hK=> ?_) AllReadyIn.nil
      go_simp;refine hK _ _ ?_;clear hK K
      refine wpAnyIn_ready (rs:=[11]) (by kernel_rfl) (by simp) ?_;refine AllReadyIn.cons rfl (fun K hK=> ?_) AllReadyIn.nil
      go_simp;refine hK _ _ ?_;clear hK K
      refine wpAnyIn_done (by kernel_rfl) ?_ _
      gi_wp2
      have hOd:ja wr.drew w1.heap.size 3 (je (zf x t r0 j)):=hOx.out;have hOe:=hOd.put m (.int .i64 z);rw[x6,←HPR.out] at hOe;have hBd:=hBx.out.drew.setCell ⟨w1.heap.size,m,none⟩ rfl (.int .i64 z)
      gi_roundg gh
      case rel=>exact⟨j+1,by go_num,by omega,hid hOe,hid hBd⟩
      case measure=>omega
     ·go_simp;refine hK _ _ ?_;clear hK K
      refine wpAnyIn_ready (rs:=[0]) (by kernel_rfl) (by simp) ?_;refine AllReadyIn.cons rfl (fun K hK=> ?_) AllReadyIn.nil
      go_simp;refine hK _ _ ?_;clear hK K
      refine wpAnyIn_ready (rs:=[10]) (by kernel_rfl) (by simp) ?_;refine AllReadyIn.cons rfl (fun K hK=> ?_) AllReadyIn.nil
      go_simp;refine hK _ _ ?_;clear hK K
      refine wpAnyIn_ready (rs:=[11]) (by kernel_rfl) (by simp) ?_;refine AllReadyIn.cons rfl (fun K hK=> ?_) AllReadyIn.nil
      go_simp;refine hK _ _ ?_;clear hK K
      refine wpAnyIn_done (by kernel_rfl) ?_ _
      gi_wp2
      have hOd:ja wr.drew w1.heap.size 3 (je (zf x t r0 j)):=hOx.out;have hOe:=hOd.put m (.int .i64 z);rw[x6,←HPR.out] at hOe;have hBd:=hBx.out.drew.setCell ⟨w1.heap.size,m,none⟩ rfl (.int .i64 z)
      gi_roundg gh
      case rel=>exact⟨j+1,by go_num,by omega,hid hOe,hid hBd⟩
      case measure=>omega
  case done=>
   rintro W ⟨hO,hQ,hK,hB⟩ hD;have hcl:W.cell? ⟨w1.heap.size+1,0,none⟩=some (.slice (some ⟨w1.heap.size,0,none⟩) p.length p.length):=hQ.cell 0;have HB:=hid hB;have HD:=hid hD;have HO:=hid hO;clear hB hD hO hQ hK
   gi_wp2
   refine⟨by simp,.inl ⟨_,_,rfl,run_takeDeferred HD.out,?_⟩⟩;refine⟨_,results_tmp2 rfl _ _ _,?_,Below.putObjQ HB.out (by omega) _⟩;rw[if_pos He.out];exact⟨_,rfl,(HO.out.putObjQ (by omega) _).sl _ (by rw[ku,G5]) (by omega)⟩
 ·have hne:(ki p != 0)=true:=by simpa using he
  have He:=hid he;have HV:=hid hv;clear he hv;go_enter Tryz.func21,Tryz.ntmps21
  go_wp2_with fail
  refine(CP.out _ (HV.out.alloc _)).mono ?_;rintro e w1 ⟨rfl,hB1⟩;have HB1:=hid hB1;clear hB1 CP;generalize hec:ki p=ec at *;have HEC:=hid hec;clear hec
  go_wp2
  go_ret2;exact⟨by rw[if_neg He.out];rfl,((Below.refl _ _).alloc (Nat.le_refl _) _).trans (HB1.out.mono (by simp))⟩
