/- The law AlgebraRanks. -/
import Derived.Test.YtneafcdfnhnpnaaGreatDoorZK32
set_option maxRecDepth 100000
set_option maxHeartbeats 32000000
namespace Go.Proofs.YtneafcdfnhnpnaaGreatDoor
open Go.RowKit Go.Lib
theorem AH (n:Nat):jV false n 1=((n:Int):Rat):=by
 unfold jV;rw[if_neg (by decide)];exact Rat.mkRat_one _
theorem xp {n:Nat} (h:n<10^90):¬kQ ((n:Int):Rat)∧(decDigits n).length≤4000000000000000000∧xY (decDigits n)=0:=by
 have h2:10^90≤10^130:=Nat.pow_le_pow_right (by decide) (by decide);have h3:=Cz (q:=((n:Int):Rat)) (Nat.lt_of_lt_of_le h h2) (Nat.one_lt_pow (by decide) (by decide));rw[qO] at h3;exact h3
theorem xz (v:Value) (p:List Int) (w:World) (hv:Sl w 1 v (jc p)) (hG:jH w) (hp:ji p≠0):Calls Tryz.prog 58 #[v] w (GF [] (ji p) w):=by
 refine(Yc v p w hv hG (Xq _)).mono fun e w' h=>⟨?_,h.2⟩
 have h1:=h.1;rw[if_neg hp] at h1;exact h1
theorem xq (p:List Int) (hl:p.length≤30):ka p p.length<10^90:=
 Nat.lt_of_lt_of_le (Qf p (by omega) _) (Nat.pow_le_pow_right (by decide) (by omega))
theorem Jm (v:Value) (p:List Int) (w:World) (hv:Sl w 1 v (jc p)) (hG:jH w) (hp:ji p=0) (hl:p.length≤30):Calls Tryz.prog 58 #[v] w (GF (decDigits (ka p p.length)) 0 w):=by
 refine(Yc v p w hv hG (Xq _)).mono fun e w' h=>⟨?_,h.2⟩
 have h1:=h.1;rw[if_pos hp,AH,zJ (xp (xq p hl)).1,qO] at h1;exact h1
theorem WZ (l:List UInt8):jl (jn l).2.num.natAbs:=by
 by_cases h:(jn l).1=0
 ·exact Uu (WU l h).2.1
 ·rw[Be l h]
  exact Uu (Nat.pow_pos (by decide))
def Fq (k:Int) (w:World) (e:Ending) (w':World):Prop:=e = .returned (.tuple #[.slice none 0 0,.int .i64 k])∧Below w.heap.size w w'
theorem JU (n:Int) (l:List UInt8) (w:World) (hl:l.length≤40) (hG:jH w) (k:Int) (hk:qe n l=k) (h0:k≠0):Calls Tryz.prog 59 #[.int .i64 n,.string ⟨l.toArray⟩] w (Fq k w):=by
 refine(Ye n l w (by omega) hG (Xq _) (WZ l)).mono fun e w' h=> ?_
 obtain⟨hB,⟨h1,_⟩ | ⟨h1,h2⟩⟩:=h
 ·exact absurd (hk.symm.trans h1) h0
 ·exact⟨by rw[←hk];exact h2,hB⟩
def Fr (N:Nat) (L:List Int) (w:World) (e:Ending) (w':World):Prop:=(∃g,e = .returned (.tuple #[.slice (some ⟨g,0,none⟩) N N,.int .i64 0])∧ja w' g 3 (jc L))∧Below w.heap.size w w'
theorem M7 (m:Nat) (l:List UInt8) (w:World) (hl:l.length≤40) (hG:jH w) (hk:qe (m:Int) l=0):Calls Tryz.prog 59 #[.int .i64 m,.string ⟨l.toArray⟩] w (Fr m (jT (kg (jn l).2.num.natAbs m m) m).1 w):=by
 refine(Ye m l w (by omega) hG (Xq _) (WZ l)).mono fun e w' h=> ?_
 obtain⟨hB,⟨_,g,h1,_,h2⟩ | ⟨h1,_⟩⟩:=h
 ·rw[Int.toNat_natCast] at h1 h2
  exact⟨⟨g,h1,h2⟩,hB⟩
 ·exact absurd hk h1
theorem V6 {q:Rat} (hd:q.den=1) (hs:¬q.num<0):q=(((q.num.natAbs:Nat):Int):Rat):=by
 have e:((q.num.natAbs:Nat):Int)=q.num:=by omega
 rw[e];apply Rat.ext
 ·rfl
 ·exact hd
theorem WN {q:Rat} (hs:¬q.num<0):0≤j5 q:=by
 unfold j5;split
 ·omega
 ·decide
theorem RJ {a b:Nat} (h:b≤a):0≤j5 (((a:Int):Rat)-((b:Int):Rat)):=by
 rw[←Rat.intCast_sub];unfold j5;have e:((((a:Int)-(b:Int):Int)):Rat).num=(a:Int)-(b:Int):=rfl;rw[e];split
 ·omega
 ·rw[if_neg (by omega)];decide
theorem RL {a b:Nat} (h:a<b):¬0≤j5 (((a:Int):Rat)-((b:Int):Rat)):=by
 rw[←Rat.intCast_sub];unfold j5;have e:((((a:Int)-(b:Int):Int)):Rat).num=(a:Int)-(b:Int):=rfl;rw[e,if_neg (by omega),if_pos (by omega)];decide
theorem Zk {w:World} {g N:Nat} {L:List Int} (h:ja w g 3 (jc L)) (hl:(jc L).length=N) (hn:N≤1000000):jE w (.slice (some ⟨g,0,none⟩) N N) (jc L):=by
 subst hl;refine⟨some ⟨g,0,none⟩,_,rfl,Nat.le_refl _,by omega,fun _=>⟨g,0,rfl,h.lt,fun j _=> ?_⟩⟩;rw[Nat.zero_add];exact h.cell j
structure zM (p:List Int) (v:Value) (n:Int) (l:List UInt8) (w:World):Prop where
 hv:Sl w 1 v (jc p)
 hG:jH w
 hl:l.length≤40
def zQ (p:List Int):Prop:=(p.length≤30∧ji p≠0)∨(p.length≤30∧ji p=0)∨(256<p.length∧p.length≤260∧ji p≠0)
def qK (v:Value) (n:Int) (l:List UInt8) (w:World):Prop:=
 Calls Tryz.prog 6 #[v,.int .i64 n,.string ⟨l.toArray⟩] w fun e w'=>e = .returned (.bool true)∧Below w.heap.size w w'
theorem EF (p:List Int) (v:Value) (n:Int) (l:List UInt8) (w:World) (H:zM p v n l w) (HP:zQ p) (hn:n<0):qK v n l w:=by
 obtain⟨hv,hG,hl⟩:=H;unfold qK;obtain⟨A,c,rfl,hc1,hc2⟩:=hv.form;simp only[jQ] at *;have HG:=hid hG;have HV:=hid hv;have HB:=hid (Below.refl w.heap.size w);have CP:=hid (fun W (hb:Below w.heap.size w W)=>JD _ p W (HV.out.below hb));have CK:=hid (fun W=>JE l W (by omega));have n30:decide ((30:Int)<n)=false:=decide_eq_false (by omega);have UN:=hid (fun W hG=>JU n l W hl hG 3 (by unfold qe;rw[if_pos (by omega)]) (by decide));have n0:n<0:=hn;have WH:=hid (fun W=>JM true 3 W);generalize (jn l).1=k at *;have HF:Hid (xT 3 k=3):=hid (by unfold xT;rw[if_neg (by decide)]);clear hn;generalize hss:(⟨l.toArray⟩:ByteArray)=s at *
 have hz:s.size=l.length:=by rw[←hss];simp[ByteArray.size]
 have hI:decide ((40:Int)<(s.size:Int))=false:=decide_eq_false (by omega);clear hss hz hl hG hv
 rcases HP with ⟨hpl,hpe⟩ | ⟨hpl,hpe⟩ | ⟨hpl,hpl2,hpe⟩
 ·have P1:decide ((30:Int)<(p.length:Int))=false:=decide_eq_false (by omega)
  have P2:decide ((260:Int)<(p.length:Int))=false:=decide_eq_false (by omega);have RK:=hid (fun W (hb:Below w.heap.size w W)=>xz _ p W (HV.out.below hb) (HG.out.below hb) hpe);have NB:=hid (xG (ji p) [] · hpe)
  have hp1:(ji p != 0)=true:=by simpa using hpe
  have hp2:(ji p==0)=false:=by simpa using hpe
  generalize ji p=pe at *;clear hpe hpl;go_enter Tryz.func6,Tryz.ntmps6
  go_wp2_with fail
  refine(qg _ (HG.out.below HB.out)).mono ?_;rintro e w8 ⟨rfl,hB⟩;replace HB:=je HB.out hB
  (try replace HO:=hid (HO.out.below hB HO.out.lt))
  clear hB
  go_wp2_with fail
  refine(RK.out _ HB.out).mono ?_;rintro e w8 ⟨rfl,hB⟩;replace HB:=je HB.out hB
  (try replace HO:=hid (HO.out.below hB HO.out.lt))
  clear hB
  go_wp2_with fail
  refine(UN.out _ (HG.out.below HB.out)).mono ?_;rintro e w8 ⟨rfl,hB⟩;replace HB:=je HB.out hB;clear hB
  go_wp2_with fail
  refine(CP.out _ HB.out).mono ?_;rintro e w8 ⟨rfl,hB⟩;replace HB:=je HB.out hB
  (try replace HO:=hid (HO.out.below hB HO.out.lt))
  clear hB
  go_wp2_with fail
  refine(NB.out _).mono ?_;rintro e w8 ⟨rfl,rfl⟩
  go_wp2_with fail
  refine(WH.out _).mono ?_;rintro e w8 ⟨rfl,rfl⟩
  go_wp2_with fail
  refine(CK.out _).mono ?_;rintro e w8 ⟨rfl,hB⟩;replace HB:=je HB.out hB
  (try replace HO:=hid (HO.out.below hB HO.out.lt))
  clear hB
  go_wp2_with fail
  refine(qx _ _ _).mono ?_;rintro e w8 ⟨rfl,hB⟩;replace HB:=je (HB.out.alloc HB.out.size _) hB
  (try replace HO:=hid ((HO.out.alloc _).below hB (HO.out.alloc _).lt))
  clear hB;rw[HF.out]
  go_wp2_with fail
  refine(xf 3 _ _ (by decide)).mono ?_;rintro e w8 ⟨rfl,hB⟩;replace HB:=je HB.out hB
  (try replace HO:=hid (HO.out.below hB HO.out.lt))
  clear hB
  go_wp2
  go_ret;exact⟨by simp,HB.out⟩
 ·have P1:decide ((30:Int)<(p.length:Int))=false:=decide_eq_false (by omega)
  have P2:decide ((260:Int)<(p.length:Int))=false:=decide_eq_false (by omega);have RK:=hid (fun W (hb:Below w.heap.size w W)=>Jm _ p W (HV.out.below hb) (HG.out.below hb) hpe hpl);have RR:=hid (fun W (hb:Below w.heap.size w W)=>JF _ p W (HV.out.below hb) hpl);have NO:=hid (fun W=>Jz _ W (xp (xq p hpl)).2.1 (xp (xq p hpl)).2.2);rw[hpe] at CP;generalize decDigits (ka p p.length)=tr at *;clear hpe hpl;go_enter Tryz.func6,Tryz.ntmps6
  go_wp2_with fail
  refine(qg _ (HG.out.below HB.out)).mono ?_;rintro e w8 ⟨rfl,hB⟩;replace HB:=je HB.out hB
  (try replace HO:=hid (HO.out.below hB HO.out.lt))
  clear hB
  go_wp2_with fail
  refine(RK.out _ HB.out).mono ?_;rintro e w8 ⟨rfl,hB⟩;replace HB:=je HB.out hB
  (try replace HO:=hid (HO.out.below hB HO.out.lt))
  clear hB
  go_wp2_with fail
  refine(UN.out _ (HG.out.below HB.out)).mono ?_;rintro e w8 ⟨rfl,hB⟩;replace HB:=je HB.out hB;clear hB
  go_wp2_with fail
  refine(CP.out _ HB.out).mono ?_;rintro e w8 ⟨rfl,hB⟩;replace HB:=je HB.out hB
  (try replace HO:=hid (HO.out.below hB HO.out.lt))
  clear hB
  go_wp2_with fail
  refine(RR.out _ HB.out).mono ?_;rintro e w8 ⟨rfl,hB⟩;replace HB:=je HB.out hB
  (try replace HO:=hid (HO.out.below hB HO.out.lt))
  clear hB
  go_wp2_with fail
  refine(NO.out _).mono ?_;rintro e w8 ⟨rfl,rfl⟩
  go_wp2_with fail
  refine(WH.out _).mono ?_;rintro e w8 ⟨rfl,rfl⟩
  go_wp2_with fail
  refine(CK.out _).mono ?_;rintro e w8 ⟨rfl,hB⟩;replace HB:=je HB.out hB
  (try replace HO:=hid (HO.out.below hB HO.out.lt))
  clear hB
  go_wp2_with fail
  refine(qx _ _ _).mono ?_;rintro e w8 ⟨rfl,hB⟩;replace HB:=je (HB.out.alloc HB.out.size _) hB
  (try replace HO:=hid ((HO.out.alloc _).below hB (HO.out.alloc _).lt))
  clear hB;rw[HF.out]
  go_wp2_with fail
  refine(xf 3 _ _ (by decide)).mono ?_;rintro e w8 ⟨rfl,hB⟩;replace HB:=je HB.out hB
  (try replace HO:=hid (HO.out.below hB HO.out.lt))
  clear hB
  go_wp2
  go_ret;exact⟨by simp,HB.out⟩
 ·have P1:(30:Int)<(p.length:Int):=by omega
  have P3:decide ((p.length:Int)≤256)=false:=decide_eq_false (by omega);have P2:decide ((260:Int)<(p.length:Int))=false:=decide_eq_false (by omega);have RK:=hid (fun W (hb:Below w.heap.size w W)=>xz _ p W (HV.out.below hb) (HG.out.below hb) hpe);have NB:=hid (xG (ji p) [] · hpe)
  have hp1:(ji p != 0)=true:=by simpa using hpe
  have hp2:(ji p==0)=false:=by simpa using hpe
  generalize ji p=pe at *;clear hpe hpl hpl2;go_enter Tryz.func6,Tryz.ntmps6
  go_wp2_with fail
  refine(qg _ (HG.out.below HB.out)).mono ?_;rintro e w8 ⟨rfl,hB⟩;replace HB:=je HB.out hB
  (try replace HO:=hid (HO.out.below hB HO.out.lt))
  clear hB
  go_wp2_with fail
  refine(RK.out _ HB.out).mono ?_;rintro e w8 ⟨rfl,hB⟩;replace HB:=je HB.out hB
  (try replace HO:=hid (HO.out.below hB HO.out.lt))
  clear hB
  go_wp2_with fail
  refine(UN.out _ (HG.out.below HB.out)).mono ?_;rintro e w8 ⟨rfl,hB⟩;replace HB:=je HB.out hB;clear hB
  go_wp2_with fail
  refine(CP.out _ HB.out).mono ?_;rintro e w8 ⟨rfl,hB⟩;replace HB:=je HB.out hB
  (try replace HO:=hid (HO.out.below hB HO.out.lt))
  clear hB
  go_wp2_with fail
  refine(NB.out _).mono ?_;rintro e w8 ⟨rfl,rfl⟩
  go_wp2_with fail
  refine(WH.out _).mono ?_;rintro e w8 ⟨rfl,rfl⟩
  go_wp2_with fail
  refine(CK.out _).mono ?_;rintro e w8 ⟨rfl,hB⟩;replace HB:=je HB.out hB
  (try replace HO:=hid (HO.out.below hB HO.out.lt))
  clear hB
  go_wp2_with fail
  refine(qx _ _ _).mono ?_;rintro e w8 ⟨rfl,hB⟩;replace HB:=je (HB.out.alloc HB.out.size _) hB
  (try replace HO:=hid ((HO.out.alloc _).below hB (HO.out.alloc _).lt))
  clear hB;rw[HF.out]
  go_wp2_with fail
  refine(xf 3 _ _ (by decide)).mono ?_;rintro e w8 ⟨rfl,hB⟩;replace HB:=je HB.out hB
  (try replace HO:=hid (HO.out.below hB HO.out.lt))
  clear hB
  go_wp2
  go_ret;exact⟨by simp,HB.out⟩
theorem EA (p:List Int) (v:Value) (n:Int) (l:List UInt8) (w:World) (H:zM p v n l w) (HP:zQ p) (hn:256<n):qK v n l w:=by
 obtain⟨hv,hG,hl⟩:=H;unfold qK;obtain⟨A,c,rfl,hc1,hc2⟩:=hv.form;simp only[jQ] at *;have HG:=hid hG;have HV:=hid hv;have HB:=hid (Below.refl w.heap.size w);have CP:=hid (fun W (hb:Below w.heap.size w W)=>JD _ p W (HV.out.below hb));have CK:=hid (fun W=>JE l W (by omega))
 have n30:(30:Int)<n:=by omega
 have n256:decide (n≤256)=false:=decide_eq_false (by omega);have UN:=hid (fun W hG=>JU n l W hl hG 3 (by unfold qe;rw[if_pos (by omega)]) (by decide));have n0:decide (n<0)=false:=decide_eq_false (by omega);have n6:256<n:=hn;have WH:=hid (fun W=>JM true 3 W);generalize (jn l).1=k at *;have HF:Hid (xT 3 k=3):=hid (by unfold xT;rw[if_neg (by decide)]);clear hn;generalize hss:(⟨l.toArray⟩:ByteArray)=s at *
 have hz:s.size=l.length:=by rw[←hss];simp[ByteArray.size]
 have hI:decide ((40:Int)<(s.size:Int))=false:=decide_eq_false (by omega);clear hss hz hl hG hv
 rcases HP with ⟨hpl,hpe⟩ | ⟨hpl,hpe⟩ | ⟨hpl,hpl2,hpe⟩
 ·have P1:decide ((30:Int)<(p.length:Int))=false:=decide_eq_false (by omega)
  have P2:decide ((260:Int)<(p.length:Int))=false:=decide_eq_false (by omega);have RK:=hid (fun W (hb:Below w.heap.size w W)=>xz _ p W (HV.out.below hb) (HG.out.below hb) hpe);have NB:=hid (xG (ji p) [] · hpe)
  have hp1:(ji p != 0)=true:=by simpa using hpe
  have hp2:(ji p==0)=false:=by simpa using hpe
  generalize ji p=pe at *;clear hpe hpl;go_enter Tryz.func6,Tryz.ntmps6
  go_wp2_with fail
  refine(qg _ (HG.out.below HB.out)).mono ?_;rintro e w8 ⟨rfl,hB⟩;replace HB:=je HB.out hB
  (try replace HO:=hid (HO.out.below hB HO.out.lt))
  clear hB
  go_wp2_with fail
  refine(RK.out _ HB.out).mono ?_;rintro e w8 ⟨rfl,hB⟩;replace HB:=je HB.out hB
  (try replace HO:=hid (HO.out.below hB HO.out.lt))
  clear hB
  go_wp2_with fail
  refine(UN.out _ (HG.out.below HB.out)).mono ?_;rintro e w8 ⟨rfl,hB⟩;replace HB:=je HB.out hB;clear hB
  go_wp2_with fail
  refine(CP.out _ HB.out).mono ?_;rintro e w8 ⟨rfl,hB⟩;replace HB:=je HB.out hB
  (try replace HO:=hid (HO.out.below hB HO.out.lt))
  clear hB
  go_wp2_with fail
  refine(NB.out _).mono ?_;rintro e w8 ⟨rfl,rfl⟩
  go_wp2_with fail
  refine(WH.out _).mono ?_;rintro e w8 ⟨rfl,rfl⟩
  go_wp2_with fail
  refine(CK.out _).mono ?_;rintro e w8 ⟨rfl,hB⟩;replace HB:=je HB.out hB
  (try replace HO:=hid (HO.out.below hB HO.out.lt))
  clear hB
  go_wp2_with fail
  refine(qx _ _ _).mono ?_;rintro e w8 ⟨rfl,hB⟩;replace HB:=je (HB.out.alloc HB.out.size _) hB
  (try replace HO:=hid ((HO.out.alloc _).below hB (HO.out.alloc _).lt))
  clear hB;rw[HF.out]
  go_wp2_with fail
  refine(xf 3 _ _ (by decide)).mono ?_;rintro e w8 ⟨rfl,hB⟩;replace HB:=je HB.out hB
  (try replace HO:=hid (HO.out.below hB HO.out.lt))
  clear hB
  go_wp2
  go_ret;exact⟨by simp,HB.out⟩
 ·have P1:decide ((30:Int)<(p.length:Int))=false:=decide_eq_false (by omega)
  have P2:decide ((260:Int)<(p.length:Int))=false:=decide_eq_false (by omega);have RK:=hid (fun W (hb:Below w.heap.size w W)=>Jm _ p W (HV.out.below hb) (HG.out.below hb) hpe hpl);have RR:=hid (fun W (hb:Below w.heap.size w W)=>JF _ p W (HV.out.below hb) hpl);have NO:=hid (fun W=>Jz _ W (xp (xq p hpl)).2.1 (xp (xq p hpl)).2.2);rw[hpe] at CP;generalize decDigits (ka p p.length)=tr at *;clear hpe hpl;go_enter Tryz.func6,Tryz.ntmps6
  go_wp2_with fail
  refine(qg _ (HG.out.below HB.out)).mono ?_;rintro e w8 ⟨rfl,hB⟩;replace HB:=je HB.out hB
  (try replace HO:=hid (HO.out.below hB HO.out.lt))
  clear hB
  go_wp2_with fail
  refine(RK.out _ HB.out).mono ?_;rintro e w8 ⟨rfl,hB⟩;replace HB:=je HB.out hB
  (try replace HO:=hid (HO.out.below hB HO.out.lt))
  clear hB
  go_wp2_with fail
  refine(UN.out _ (HG.out.below HB.out)).mono ?_;rintro e w8 ⟨rfl,hB⟩;replace HB:=je HB.out hB;clear hB
  go_wp2_with fail
  refine(CP.out _ HB.out).mono ?_;rintro e w8 ⟨rfl,hB⟩;replace HB:=je HB.out hB
  (try replace HO:=hid (HO.out.below hB HO.out.lt))
  clear hB
  go_wp2_with fail
  refine(RR.out _ HB.out).mono ?_;rintro e w8 ⟨rfl,hB⟩;replace HB:=je HB.out hB
  (try replace HO:=hid (HO.out.below hB HO.out.lt))
  clear hB
  go_wp2_with fail
  refine(NO.out _).mono ?_;rintro e w8 ⟨rfl,rfl⟩
  go_wp2_with fail
  refine(WH.out _).mono ?_;rintro e w8 ⟨rfl,rfl⟩
  go_wp2_with fail
  refine(CK.out _).mono ?_;rintro e w8 ⟨rfl,hB⟩;replace HB:=je HB.out hB
  (try replace HO:=hid (HO.out.below hB HO.out.lt))
  clear hB
  go_wp2_with fail
  refine(qx _ _ _).mono ?_;rintro e w8 ⟨rfl,hB⟩;replace HB:=je (HB.out.alloc HB.out.size _) hB
  (try replace HO:=hid ((HO.out.alloc _).below hB (HO.out.alloc _).lt))
  clear hB;rw[HF.out]
  go_wp2_with fail
  refine(xf 3 _ _ (by decide)).mono ?_;rintro e w8 ⟨rfl,hB⟩;replace HB:=je HB.out hB
  (try replace HO:=hid (HO.out.below hB HO.out.lt))
  clear hB
  go_wp2
  go_ret;exact⟨by simp,HB.out⟩
 ·have P1:(30:Int)<(p.length:Int):=by omega
  have P3:decide ((p.length:Int)≤256)=false:=decide_eq_false (by omega);have P2:decide ((260:Int)<(p.length:Int))=false:=decide_eq_false (by omega);have RK:=hid (fun W (hb:Below w.heap.size w W)=>xz _ p W (HV.out.below hb) (HG.out.below hb) hpe);have NB:=hid (xG (ji p) [] · hpe)
  have hp1:(ji p != 0)=true:=by simpa using hpe
  have hp2:(ji p==0)=false:=by simpa using hpe
  generalize ji p=pe at *;clear hpe hpl hpl2;go_enter Tryz.func6,Tryz.ntmps6
  go_wp2_with fail
  refine(qg _ (HG.out.below HB.out)).mono ?_;rintro e w8 ⟨rfl,hB⟩;replace HB:=je HB.out hB
  (try replace HO:=hid (HO.out.below hB HO.out.lt))
  clear hB
  go_wp2_with fail
  refine(RK.out _ HB.out).mono ?_;rintro e w8 ⟨rfl,hB⟩;replace HB:=je HB.out hB
  (try replace HO:=hid (HO.out.below hB HO.out.lt))
  clear hB
  go_wp2_with fail
  refine(UN.out _ (HG.out.below HB.out)).mono ?_;rintro e w8 ⟨rfl,hB⟩;replace HB:=je HB.out hB;clear hB
  go_wp2_with fail
  refine(CP.out _ HB.out).mono ?_;rintro e w8 ⟨rfl,hB⟩;replace HB:=je HB.out hB
  (try replace HO:=hid (HO.out.below hB HO.out.lt))
  clear hB
  go_wp2_with fail
  refine(NB.out _).mono ?_;rintro e w8 ⟨rfl,rfl⟩
  go_wp2_with fail
  refine(WH.out _).mono ?_;rintro e w8 ⟨rfl,rfl⟩
  go_wp2_with fail
  refine(CK.out _).mono ?_;rintro e w8 ⟨rfl,hB⟩;replace HB:=je HB.out hB
  (try replace HO:=hid (HO.out.below hB HO.out.lt))
  clear hB
  go_wp2_with fail
  refine(qx _ _ _).mono ?_;rintro e w8 ⟨rfl,hB⟩;replace HB:=je (HB.out.alloc HB.out.size _) hB
  (try replace HO:=hid ((HO.out.alloc _).below hB (HO.out.alloc _).lt))
  clear hB;rw[HF.out]
  go_wp2_with fail
  refine(xf 3 _ _ (by decide)).mono ?_;rintro e w8 ⟨rfl,hB⟩;replace HB:=je HB.out hB
  (try replace HO:=hid (HO.out.below hB HO.out.lt))
  clear hB
  go_wp2
  go_ret;exact⟨by simp,HB.out⟩
theorem EB (p:List Int) (v:Value) (n:Int) (l:List UInt8) (w:World) (H:zM p v n l w) (HP:zQ p) (hn:0≤n∧n≤30) (hk:(jn l).1≠0):qK v n l w:=by
 obtain⟨hv,hG,hl⟩:=H;unfold qK;obtain⟨A,c,rfl,hc1,hc2⟩:=hv.form;simp only[jQ] at *;have HG:=hid hG;have HV:=hid hv;have HB:=hid (Below.refl w.heap.size w);have CP:=hid (fun W (hb:Below w.heap.size w W)=>JD _ p W (HV.out.below hb));have CK:=hid (fun W=>JE l W (by omega));have n30:decide ((30:Int)<n)=false:=decide_eq_false (by omega);have n0:decide (n<0)=false:=decide_eq_false (by omega);have n6:decide ((256:Int)<n)=false:=decide_eq_false (by omega);have WH:=hid (fun W=>JM false 3 W);have UN:=hid (fun W hG=>JU n l W hl hG (jn l).1 (by unfold qe;rw[if_neg (by omega),if_pos hk]) hk);have LB:=hid (fun W=>xf (jn l).1 (.slice none 0 0) W hk);generalize (jn l).1=k at *
 have hk1:(k != 0)=true:=by simpa using hk
 have hk2:(k==0)=false:=by simpa using hk
 have HF:Hid (xT 0 k=k):=hid (by unfold xT;rw[if_pos rfl]);clear hn hk;generalize hss:(⟨l.toArray⟩:ByteArray)=s at *
 have hz:s.size=l.length:=by rw[←hss];simp[ByteArray.size]
 have hI:decide ((40:Int)<(s.size:Int))=false:=decide_eq_false (by omega);clear hss hz hl hG hv
 rcases HP with ⟨hpl,hpe⟩ | ⟨hpl,hpe⟩ | ⟨hpl,hpl2,hpe⟩
 ·have P1:decide ((30:Int)<(p.length:Int))=false:=decide_eq_false (by omega)
  have P2:decide ((260:Int)<(p.length:Int))=false:=decide_eq_false (by omega);have RK:=hid (fun W (hb:Below w.heap.size w W)=>xz _ p W (HV.out.below hb) (HG.out.below hb) hpe);have NB:=hid (xG (ji p) [] · hpe)
  have hp1:(ji p != 0)=true:=by simpa using hpe
  have hp2:(ji p==0)=false:=by simpa using hpe
  generalize ji p=pe at *;clear hpe hpl;go_enter Tryz.func6,Tryz.ntmps6
  go_wp2_with fail
  refine(qg _ (HG.out.below HB.out)).mono ?_;rintro e w8 ⟨rfl,hB⟩;replace HB:=je HB.out hB
  (try replace HO:=hid (HO.out.below hB HO.out.lt))
  clear hB
  go_wp2_with fail
  refine(RK.out _ HB.out).mono ?_;rintro e w8 ⟨rfl,hB⟩;replace HB:=je HB.out hB
  (try replace HO:=hid (HO.out.below hB HO.out.lt))
  clear hB
  go_wp2_with fail
  refine(UN.out _ (HG.out.below HB.out)).mono ?_;rintro e w8 ⟨rfl,hB⟩;replace HB:=je HB.out hB;clear hB
  go_wp2_with fail
  refine(CP.out _ HB.out).mono ?_;rintro e w8 ⟨rfl,hB⟩;replace HB:=je HB.out hB
  (try replace HO:=hid (HO.out.below hB HO.out.lt))
  clear hB
  go_wp2_with fail
  refine(NB.out _).mono ?_;rintro e w8 ⟨rfl,rfl⟩
  go_wp2_with fail
  refine(WH.out _).mono ?_;rintro e w8 ⟨rfl,rfl⟩
  go_wp2_with fail
  refine(CK.out _).mono ?_;rintro e w8 ⟨rfl,hB⟩;replace HB:=je HB.out hB
  (try replace HO:=hid (HO.out.below hB HO.out.lt))
  clear hB
  go_wp2_with fail
  refine(qx _ _ _).mono ?_;rintro e w8 ⟨rfl,hB⟩;replace HB:=je (HB.out.alloc HB.out.size _) hB
  (try replace HO:=hid ((HO.out.alloc _).below hB (HO.out.alloc _).lt))
  clear hB;rw[HF.out]
  go_wp2_with fail
  refine(LB.out _).mono ?_;rintro e w8 ⟨rfl,hB⟩;replace HB:=je HB.out hB
  (try replace HO:=hid (HO.out.below hB HO.out.lt))
  clear hB
  go_wp2
  go_ret;exact⟨by simp,HB.out⟩
 ·have P1:decide ((30:Int)<(p.length:Int))=false:=decide_eq_false (by omega)
  have P2:decide ((260:Int)<(p.length:Int))=false:=decide_eq_false (by omega);have RK:=hid (fun W (hb:Below w.heap.size w W)=>Jm _ p W (HV.out.below hb) (HG.out.below hb) hpe hpl);have RR:=hid (fun W (hb:Below w.heap.size w W)=>JF _ p W (HV.out.below hb) hpl);have NO:=hid (fun W=>Jz _ W (xp (xq p hpl)).2.1 (xp (xq p hpl)).2.2);rw[hpe] at CP;generalize decDigits (ka p p.length)=tr at *;clear hpe hpl;go_enter Tryz.func6,Tryz.ntmps6
  go_wp2_with fail
  refine(qg _ (HG.out.below HB.out)).mono ?_;rintro e w8 ⟨rfl,hB⟩;replace HB:=je HB.out hB
  (try replace HO:=hid (HO.out.below hB HO.out.lt))
  clear hB
  go_wp2_with fail
  refine(RK.out _ HB.out).mono ?_;rintro e w8 ⟨rfl,hB⟩;replace HB:=je HB.out hB
  (try replace HO:=hid (HO.out.below hB HO.out.lt))
  clear hB
  go_wp2_with fail
  refine(UN.out _ (HG.out.below HB.out)).mono ?_;rintro e w8 ⟨rfl,hB⟩;replace HB:=je HB.out hB;clear hB
  go_wp2_with fail
  refine(CP.out _ HB.out).mono ?_;rintro e w8 ⟨rfl,hB⟩;replace HB:=je HB.out hB
  (try replace HO:=hid (HO.out.below hB HO.out.lt))
  clear hB
  go_wp2_with fail
  refine(RR.out _ HB.out).mono ?_;rintro e w8 ⟨rfl,hB⟩;replace HB:=je HB.out hB
  (try replace HO:=hid (HO.out.below hB HO.out.lt))
  clear hB
  go_wp2_with fail
  refine(NO.out _).mono ?_;rintro e w8 ⟨rfl,rfl⟩
  go_wp2_with fail
  refine(WH.out _).mono ?_;rintro e w8 ⟨rfl,rfl⟩
  go_wp2_with fail
  refine(CK.out _).mono ?_;rintro e w8 ⟨rfl,hB⟩;replace HB:=je HB.out hB
  (try replace HO:=hid (HO.out.below hB HO.out.lt))
  clear hB
  go_wp2_with fail
  refine(qx _ _ _).mono ?_;rintro e w8 ⟨rfl,hB⟩;replace HB:=je (HB.out.alloc HB.out.size _) hB
  (try replace HO:=hid ((HO.out.alloc _).below hB (HO.out.alloc _).lt))
  clear hB;rw[HF.out]
  go_wp2_with fail
  refine(LB.out _).mono ?_;rintro e w8 ⟨rfl,hB⟩;replace HB:=je HB.out hB
  (try replace HO:=hid (HO.out.below hB HO.out.lt))
  clear hB
  go_wp2
  go_ret;exact⟨by simp,HB.out⟩
 ·have P1:(30:Int)<(p.length:Int):=by omega
  have P3:decide ((p.length:Int)≤256)=false:=decide_eq_false (by omega);have P2:decide ((260:Int)<(p.length:Int))=false:=decide_eq_false (by omega);have RK:=hid (fun W (hb:Below w.heap.size w W)=>xz _ p W (HV.out.below hb) (HG.out.below hb) hpe);have NB:=hid (xG (ji p) [] · hpe)
  have hp1:(ji p != 0)=true:=by simpa using hpe
  have hp2:(ji p==0)=false:=by simpa using hpe
  generalize ji p=pe at *;clear hpe hpl hpl2;go_enter Tryz.func6,Tryz.ntmps6
  go_wp2_with fail
  refine(qg _ (HG.out.below HB.out)).mono ?_;rintro e w8 ⟨rfl,hB⟩;replace HB:=je HB.out hB
  (try replace HO:=hid (HO.out.below hB HO.out.lt))
  clear hB
  go_wp2_with fail
  refine(RK.out _ HB.out).mono ?_;rintro e w8 ⟨rfl,hB⟩;replace HB:=je HB.out hB
  (try replace HO:=hid (HO.out.below hB HO.out.lt))
  clear hB
  go_wp2_with fail
  refine(UN.out _ (HG.out.below HB.out)).mono ?_;rintro e w8 ⟨rfl,hB⟩;replace HB:=je HB.out hB;clear hB
  go_wp2_with fail
  refine(CP.out _ HB.out).mono ?_;rintro e w8 ⟨rfl,hB⟩;replace HB:=je HB.out hB
  (try replace HO:=hid (HO.out.below hB HO.out.lt))
  clear hB
  go_wp2_with fail
  refine(NB.out _).mono ?_;rintro e w8 ⟨rfl,rfl⟩
  go_wp2_with fail
  refine(WH.out _).mono ?_;rintro e w8 ⟨rfl,rfl⟩
  go_wp2_with fail
  refine(CK.out _).mono ?_;rintro e w8 ⟨rfl,hB⟩;replace HB:=je HB.out hB
  (try replace HO:=hid (HO.out.below hB HO.out.lt))
  clear hB
  go_wp2_with fail
  refine(qx _ _ _).mono ?_;rintro e w8 ⟨rfl,hB⟩;replace HB:=je (HB.out.alloc HB.out.size _) hB
  (try replace HO:=hid ((HO.out.alloc _).below hB (HO.out.alloc _).lt))
  clear hB;rw[HF.out]
  go_wp2_with fail
  refine(LB.out _).mono ?_;rintro e w8 ⟨rfl,hB⟩;replace HB:=je HB.out hB
  (try replace HO:=hid (HO.out.below hB HO.out.lt))
  clear hB
  go_wp2
  go_ret;exact⟨by simp,HB.out⟩
theorem EC (p:List Int) (v:Value) (n:Int) (l:List UInt8) (w:World) (H:zM p v n l w) (HP:zQ p) (hn:0≤n∧n≤30) (hk:(jn l).1=0) (hd:(jn l).2.den≠1):qK v n l w:=by
 obtain⟨hv,hG,hl⟩:=H;unfold qK;obtain⟨A,c,rfl,hc1,hc2⟩:=hv.form;simp only[jQ] at *;have HG:=hid hG;have HV:=hid hv;have HB:=hid (Below.refl w.heap.size w);have CP:=hid (fun W (hb:Below w.heap.size w W)=>JD _ p W (HV.out.below hb));have CK:=hid (fun W=>JE l W (by omega));have n30:decide ((30:Int)<n)=false:=decide_eq_false (by omega);have n0:decide (n<0)=false:=decide_eq_false (by omega);have n6:decide ((256:Int)<n)=false:=decide_eq_false (by omega);have WH:=hid (fun W=>JM false 3 W);obtain⟨m,rfl⟩:=Int.eq_ofNat_of_zero_le hn.1
 have hm:m≤30:=by omega
 obtain⟨t1,q1,q2⟩:=Xw l hk (by omega);have hq:=QJ q1 q2;have IW:=hid (fun W=>JQ (jn l).2 W hq.bigD);rw[t1] at IW;have HF:Hid (xT 0 0=0):=hid rfl;have UN:=hid (fun W hG=>JU (m:Int) l W hl hG 3 (by unfold qe;rw[if_neg (by omega),if_neg (by rw[hk];decide),if_pos (.inr hd)]) (by decide));rw[decide_eq_false hd] at IW;rw[hk] at CK;clear hn hk hd hq q1 q2 t1;generalize hss:(⟨l.toArray⟩:ByteArray)=s at *
 have hz:s.size=l.length:=by rw[←hss];simp[ByteArray.size]
 have hI:decide ((40:Int)<(s.size:Int))=false:=decide_eq_false (by omega);clear hss hz hl hG hv
 rcases HP with ⟨hpl,hpe⟩ | ⟨hpl,hpe⟩ | ⟨hpl,hpl2,hpe⟩
 ·have P1:decide ((30:Int)<(p.length:Int))=false:=decide_eq_false (by omega)
  have P2:decide ((260:Int)<(p.length:Int))=false:=decide_eq_false (by omega);have RK:=hid (fun W (hb:Below w.heap.size w W)=>xz _ p W (HV.out.below hb) (HG.out.below hb) hpe);have NB:=hid (xG (ji p) [] · hpe)
  have hp1:(ji p != 0)=true:=by simpa using hpe
  have hp2:(ji p==0)=false:=by simpa using hpe
  generalize ji p=pe at *;clear hpe hpl;go_enter Tryz.func6,Tryz.ntmps6
  go_wp2_with fail
  refine(qg _ (HG.out.below HB.out)).mono ?_;rintro e w8 ⟨rfl,hB⟩;replace HB:=je HB.out hB
  (try replace HO:=hid (HO.out.below hB HO.out.lt))
  clear hB
  go_wp2_with fail
  refine(RK.out _ HB.out).mono ?_;rintro e w8 ⟨rfl,hB⟩;replace HB:=je HB.out hB
  (try replace HO:=hid (HO.out.below hB HO.out.lt))
  clear hB
  go_wp2_with fail
  refine(UN.out _ (HG.out.below HB.out)).mono ?_;rintro e w8 ⟨rfl,hB⟩;replace HB:=je HB.out hB;clear hB
  go_wp2_with fail
  refine(CP.out _ HB.out).mono ?_;rintro e w8 ⟨rfl,hB⟩;replace HB:=je HB.out hB
  (try replace HO:=hid (HO.out.below hB HO.out.lt))
  clear hB
  go_wp2_with fail
  refine(NB.out _).mono ?_;rintro e w8 ⟨rfl,rfl⟩
  go_wp2_with fail
  refine(WH.out _).mono ?_;rintro e w8 ⟨rfl,rfl⟩
  go_wp2_with fail
  refine(CK.out _).mono ?_;rintro e w8 ⟨rfl,hB⟩;replace HB:=je HB.out hB
  (try replace HO:=hid (HO.out.below hB HO.out.lt))
  clear hB
  go_wp2_with fail
  refine(qx _ _ _).mono ?_;rintro e w8 ⟨rfl,hB⟩;replace HB:=je (HB.out.alloc HB.out.size _) hB
  (try replace HO:=hid ((HO.out.alloc _).below hB (HO.out.alloc _).lt))
  clear hB;rw[HF.out]
  go_wp2_with fail
  refine(IW.out _).mono ?_;rintro e w8 ⟨rfl,rfl⟩
  go_wp2_with fail
  refine(xf 3 _ _ (by decide)).mono ?_;rintro e w8 ⟨rfl,hB⟩;replace HB:=je HB.out hB
  (try replace HO:=hid (HO.out.below hB HO.out.lt))
  clear hB
  go_wp2
  go_ret;exact⟨by simp,HB.out⟩
 ·have P1:decide ((30:Int)<(p.length:Int))=false:=decide_eq_false (by omega)
  have P2:decide ((260:Int)<(p.length:Int))=false:=decide_eq_false (by omega);have RK:=hid (fun W (hb:Below w.heap.size w W)=>Jm _ p W (HV.out.below hb) (HG.out.below hb) hpe hpl);have RR:=hid (fun W (hb:Below w.heap.size w W)=>JF _ p W (HV.out.below hb) hpl);have NO:=hid (fun W=>Jz _ W (xp (xq p hpl)).2.1 (xp (xq p hpl)).2.2);rw[hpe] at CP;generalize decDigits (ka p p.length)=tr at *;clear hpe hpl;go_enter Tryz.func6,Tryz.ntmps6
  go_wp2_with fail
  refine(qg _ (HG.out.below HB.out)).mono ?_;rintro e w8 ⟨rfl,hB⟩;replace HB:=je HB.out hB
  (try replace HO:=hid (HO.out.below hB HO.out.lt))
  clear hB
  go_wp2_with fail
  refine(RK.out _ HB.out).mono ?_;rintro e w8 ⟨rfl,hB⟩;replace HB:=je HB.out hB
  (try replace HO:=hid (HO.out.below hB HO.out.lt))
  clear hB
  go_wp2_with fail
  refine(UN.out _ (HG.out.below HB.out)).mono ?_;rintro e w8 ⟨rfl,hB⟩;replace HB:=je HB.out hB;clear hB
  go_wp2_with fail
  refine(CP.out _ HB.out).mono ?_;rintro e w8 ⟨rfl,hB⟩;replace HB:=je HB.out hB
  (try replace HO:=hid (HO.out.below hB HO.out.lt))
  clear hB
  go_wp2_with fail
  refine(RR.out _ HB.out).mono ?_;rintro e w8 ⟨rfl,hB⟩;replace HB:=je HB.out hB
  (try replace HO:=hid (HO.out.below hB HO.out.lt))
  clear hB
  go_wp2_with fail
  refine(NO.out _).mono ?_;rintro e w8 ⟨rfl,rfl⟩
  go_wp2_with fail
  refine(WH.out _).mono ?_;rintro e w8 ⟨rfl,rfl⟩
  go_wp2_with fail
  refine(CK.out _).mono ?_;rintro e w8 ⟨rfl,hB⟩;replace HB:=je HB.out hB
  (try replace HO:=hid (HO.out.below hB HO.out.lt))
  clear hB
  go_wp2_with fail
  refine(qx _ _ _).mono ?_;rintro e w8 ⟨rfl,hB⟩;replace HB:=je (HB.out.alloc HB.out.size _) hB
  (try replace HO:=hid ((HO.out.alloc _).below hB (HO.out.alloc _).lt))
  clear hB;rw[HF.out]
  go_wp2_with fail
  refine(IW.out _).mono ?_;rintro e w8 ⟨rfl,rfl⟩
  go_wp2_with fail
  refine(xf 3 _ _ (by decide)).mono ?_;rintro e w8 ⟨rfl,hB⟩;replace HB:=je HB.out hB
  (try replace HO:=hid (HO.out.below hB HO.out.lt))
  clear hB
  go_wp2
  go_ret;exact⟨by simp,HB.out⟩
 ·have P1:(30:Int)<(p.length:Int):=by omega
  have P3:decide ((p.length:Int)≤256)=false:=decide_eq_false (by omega);have P2:decide ((260:Int)<(p.length:Int))=false:=decide_eq_false (by omega);have RK:=hid (fun W (hb:Below w.heap.size w W)=>xz _ p W (HV.out.below hb) (HG.out.below hb) hpe);have NB:=hid (xG (ji p) [] · hpe)
  have hp1:(ji p != 0)=true:=by simpa using hpe
  have hp2:(ji p==0)=false:=by simpa using hpe
  generalize ji p=pe at *;clear hpe hpl hpl2;go_enter Tryz.func6,Tryz.ntmps6
  go_wp2_with fail
  refine(qg _ (HG.out.below HB.out)).mono ?_;rintro e w8 ⟨rfl,hB⟩;replace HB:=je HB.out hB
  (try replace HO:=hid (HO.out.below hB HO.out.lt))
  clear hB
  go_wp2_with fail
  refine(RK.out _ HB.out).mono ?_;rintro e w8 ⟨rfl,hB⟩;replace HB:=je HB.out hB
  (try replace HO:=hid (HO.out.below hB HO.out.lt))
  clear hB
  go_wp2_with fail
  refine(UN.out _ (HG.out.below HB.out)).mono ?_;rintro e w8 ⟨rfl,hB⟩;replace HB:=je HB.out hB;clear hB
  go_wp2_with fail
  refine(CP.out _ HB.out).mono ?_;rintro e w8 ⟨rfl,hB⟩;replace HB:=je HB.out hB
  (try replace HO:=hid (HO.out.below hB HO.out.lt))
  clear hB
  go_wp2_with fail
  refine(NB.out _).mono ?_;rintro e w8 ⟨rfl,rfl⟩
  go_wp2_with fail
  refine(WH.out _).mono ?_;rintro e w8 ⟨rfl,rfl⟩
  go_wp2_with fail
  refine(CK.out _).mono ?_;rintro e w8 ⟨rfl,hB⟩;replace HB:=je HB.out hB
  (try replace HO:=hid (HO.out.below hB HO.out.lt))
  clear hB
  go_wp2_with fail
  refine(qx _ _ _).mono ?_;rintro e w8 ⟨rfl,hB⟩;replace HB:=je (HB.out.alloc HB.out.size _) hB
  (try replace HO:=hid ((HO.out.alloc _).below hB (HO.out.alloc _).lt))
  clear hB;rw[HF.out]
  go_wp2_with fail
  refine(IW.out _).mono ?_;rintro e w8 ⟨rfl,rfl⟩
  go_wp2_with fail
  refine(xf 3 _ _ (by decide)).mono ?_;rintro e w8 ⟨rfl,hB⟩;replace HB:=je HB.out hB
  (try replace HO:=hid (HO.out.below hB HO.out.lt))
  clear hB
  go_wp2
  go_ret;exact⟨by simp,HB.out⟩
theorem EE (p:List Int) (v:Value) (n:Int) (l:List UInt8) (w:World) (H:zM p v n l w) (HP:zQ p) (hn:0≤n∧n≤30) (hk:(jn l).1=0) (hd:(jn l).2.den=1) (hs:(jn l).2.num<0):qK v n l w:=by
 obtain⟨hv,hG,hl⟩:=H;unfold qK;obtain⟨A,c,rfl,hc1,hc2⟩:=hv.form;simp only[jQ] at *;have HG:=hid hG;have HV:=hid hv;have HB:=hid (Below.refl w.heap.size w);have CP:=hid (fun W (hb:Below w.heap.size w W)=>JD _ p W (HV.out.below hb));have CK:=hid (fun W=>JE l W (by omega));have n30:decide ((30:Int)<n)=false:=decide_eq_false (by omega);have n0:decide (n<0)=false:=decide_eq_false (by omega);have n6:decide ((256:Int)<n)=false:=decide_eq_false (by omega);have WH:=hid (fun W=>JM false 3 W);obtain⟨m,rfl⟩:=Int.eq_ofNat_of_zero_le hn.1
 have hm:m≤30:=by omega
 obtain⟨t1,q1,q2⟩:=Xw l hk (by omega);have hq:=QJ q1 q2;have IW:=hid (fun W=>JQ (jn l).2 W hq.bigD);rw[t1] at IW;have HF:Hid (xT 0 0=0):=hid rfl;have SG:=hid (fun W=>Km l W (by omega))
 have hts:kP l=j5 (jn l).2:=by rw[←t1];rw[Ks,t1]
 rw[hts] at SG;have UN:=hid (fun W hG=>JU (m:Int) l W hl hG 3 (by unfold qe;rw[if_neg (by omega),if_neg (by rw[hk];decide),if_pos (.inl hs)]) (by decide));rw[decide_eq_true hd] at IW;rw[hk] at CK
 have hrs:j5 (jn l).2 = -1:=by unfold j5;rw[if_neg (by omega),if_pos hs]
 rw[hrs] at SG;clear hn hk hd hq q1 q2 t1 hts hs hrs;generalize hss:(⟨l.toArray⟩:ByteArray)=s at *
 have hz:s.size=l.length:=by rw[←hss];simp[ByteArray.size]
 have hI:decide ((40:Int)<(s.size:Int))=false:=decide_eq_false (by omega);clear hss hz hl hG hv
 rcases HP with ⟨hpl,hpe⟩ | ⟨hpl,hpe⟩ | ⟨hpl,hpl2,hpe⟩
 ·have P1:decide ((30:Int)<(p.length:Int))=false:=decide_eq_false (by omega)
  have P2:decide ((260:Int)<(p.length:Int))=false:=decide_eq_false (by omega);have RK:=hid (fun W (hb:Below w.heap.size w W)=>xz _ p W (HV.out.below hb) (HG.out.below hb) hpe);have NB:=hid (xG (ji p) [] · hpe)
  have hp1:(ji p != 0)=true:=by simpa using hpe
  have hp2:(ji p==0)=false:=by simpa using hpe
  generalize ji p=pe at *;clear hpe hpl;go_enter Tryz.func6,Tryz.ntmps6
  go_wp2_with fail
  refine(qg _ (HG.out.below HB.out)).mono ?_;rintro e w8 ⟨rfl,hB⟩;replace HB:=je HB.out hB
  (try replace HO:=hid (HO.out.below hB HO.out.lt))
  clear hB
  go_wp2_with fail
  refine(RK.out _ HB.out).mono ?_;rintro e w8 ⟨rfl,hB⟩;replace HB:=je HB.out hB
  (try replace HO:=hid (HO.out.below hB HO.out.lt))
  clear hB
  go_wp2_with fail
  refine(UN.out _ (HG.out.below HB.out)).mono ?_;rintro e w8 ⟨rfl,hB⟩;replace HB:=je HB.out hB;clear hB
  go_wp2_with fail
  refine(CP.out _ HB.out).mono ?_;rintro e w8 ⟨rfl,hB⟩;replace HB:=je HB.out hB
  (try replace HO:=hid (HO.out.below hB HO.out.lt))
  clear hB
  go_wp2_with fail
  refine(NB.out _).mono ?_;rintro e w8 ⟨rfl,rfl⟩
  go_wp2_with fail
  refine(WH.out _).mono ?_;rintro e w8 ⟨rfl,rfl⟩
  go_wp2_with fail
  refine(CK.out _).mono ?_;rintro e w8 ⟨rfl,hB⟩;replace HB:=je HB.out hB
  (try replace HO:=hid (HO.out.below hB HO.out.lt))
  clear hB
  go_wp2_with fail
  refine(qx _ _ _).mono ?_;rintro e w8 ⟨rfl,hB⟩;replace HB:=je (HB.out.alloc HB.out.size _) hB
  (try replace HO:=hid ((HO.out.alloc _).below hB (HO.out.alloc _).lt))
  clear hB;rw[HF.out]
  go_wp2_with fail
  refine(IW.out _).mono ?_;rintro e w8 ⟨rfl,rfl⟩
  go_wp2_with fail
  refine(SG.out _).mono ?_;rintro e w8 ⟨rfl,rfl⟩
  go_wp2_with fail
  refine(xf 3 _ _ (by decide)).mono ?_;rintro e w8 ⟨rfl,hB⟩;replace HB:=je HB.out hB
  (try replace HO:=hid (HO.out.below hB HO.out.lt))
  clear hB
  go_wp2
  go_ret;exact⟨by simp,HB.out⟩
 ·have P1:decide ((30:Int)<(p.length:Int))=false:=decide_eq_false (by omega)
  have P2:decide ((260:Int)<(p.length:Int))=false:=decide_eq_false (by omega);have RK:=hid (fun W (hb:Below w.heap.size w W)=>Jm _ p W (HV.out.below hb) (HG.out.below hb) hpe hpl);have RR:=hid (fun W (hb:Below w.heap.size w W)=>JF _ p W (HV.out.below hb) hpl);have NO:=hid (fun W=>Jz _ W (xp (xq p hpl)).2.1 (xp (xq p hpl)).2.2);rw[hpe] at CP;generalize decDigits (ka p p.length)=tr at *;clear hpe hpl;go_enter Tryz.func6,Tryz.ntmps6
  go_wp2_with fail
  refine(qg _ (HG.out.below HB.out)).mono ?_;rintro e w8 ⟨rfl,hB⟩;replace HB:=je HB.out hB
  (try replace HO:=hid (HO.out.below hB HO.out.lt))
  clear hB
  go_wp2_with fail
  refine(RK.out _ HB.out).mono ?_;rintro e w8 ⟨rfl,hB⟩;replace HB:=je HB.out hB
  (try replace HO:=hid (HO.out.below hB HO.out.lt))
  clear hB
  go_wp2_with fail
  refine(UN.out _ (HG.out.below HB.out)).mono ?_;rintro e w8 ⟨rfl,hB⟩;replace HB:=je HB.out hB;clear hB
  go_wp2_with fail
  refine(CP.out _ HB.out).mono ?_;rintro e w8 ⟨rfl,hB⟩;replace HB:=je HB.out hB
  (try replace HO:=hid (HO.out.below hB HO.out.lt))
  clear hB
  go_wp2_with fail
  refine(RR.out _ HB.out).mono ?_;rintro e w8 ⟨rfl,hB⟩;replace HB:=je HB.out hB
  (try replace HO:=hid (HO.out.below hB HO.out.lt))
  clear hB
  go_wp2_with fail
  refine(NO.out _).mono ?_;rintro e w8 ⟨rfl,rfl⟩
  go_wp2_with fail
  refine(WH.out _).mono ?_;rintro e w8 ⟨rfl,rfl⟩
  go_wp2_with fail
  refine(CK.out _).mono ?_;rintro e w8 ⟨rfl,hB⟩;replace HB:=je HB.out hB
  (try replace HO:=hid (HO.out.below hB HO.out.lt))
  clear hB
  go_wp2_with fail
  refine(qx _ _ _).mono ?_;rintro e w8 ⟨rfl,hB⟩;replace HB:=je (HB.out.alloc HB.out.size _) hB
  (try replace HO:=hid ((HO.out.alloc _).below hB (HO.out.alloc _).lt))
  clear hB;rw[HF.out]
  go_wp2_with fail
  refine(IW.out _).mono ?_;rintro e w8 ⟨rfl,rfl⟩
  go_wp2_with fail
  refine(SG.out _).mono ?_;rintro e w8 ⟨rfl,rfl⟩
  go_wp2_with fail
  refine(xf 3 _ _ (by decide)).mono ?_;rintro e w8 ⟨rfl,hB⟩;replace HB:=je HB.out hB
  (try replace HO:=hid (HO.out.below hB HO.out.lt))
  clear hB
  go_wp2
  go_ret;exact⟨by simp,HB.out⟩
 ·have P1:(30:Int)<(p.length:Int):=by omega
  have P3:decide ((p.length:Int)≤256)=false:=decide_eq_false (by omega);have P2:decide ((260:Int)<(p.length:Int))=false:=decide_eq_false (by omega);have RK:=hid (fun W (hb:Below w.heap.size w W)=>xz _ p W (HV.out.below hb) (HG.out.below hb) hpe);have NB:=hid (xG (ji p) [] · hpe)
  have hp1:(ji p != 0)=true:=by simpa using hpe
  have hp2:(ji p==0)=false:=by simpa using hpe
  generalize ji p=pe at *;clear hpe hpl hpl2;go_enter Tryz.func6,Tryz.ntmps6
  go_wp2_with fail
  refine(qg _ (HG.out.below HB.out)).mono ?_;rintro e w8 ⟨rfl,hB⟩;replace HB:=je HB.out hB
  (try replace HO:=hid (HO.out.below hB HO.out.lt))
  clear hB
  go_wp2_with fail
  refine(RK.out _ HB.out).mono ?_;rintro e w8 ⟨rfl,hB⟩;replace HB:=je HB.out hB
  (try replace HO:=hid (HO.out.below hB HO.out.lt))
  clear hB
  go_wp2_with fail
  refine(UN.out _ (HG.out.below HB.out)).mono ?_;rintro e w8 ⟨rfl,hB⟩;replace HB:=je HB.out hB;clear hB
  go_wp2_with fail
  refine(CP.out _ HB.out).mono ?_;rintro e w8 ⟨rfl,hB⟩;replace HB:=je HB.out hB
  (try replace HO:=hid (HO.out.below hB HO.out.lt))
  clear hB
  go_wp2_with fail
  refine(NB.out _).mono ?_;rintro e w8 ⟨rfl,rfl⟩
  go_wp2_with fail
  refine(WH.out _).mono ?_;rintro e w8 ⟨rfl,rfl⟩
  go_wp2_with fail
  refine(CK.out _).mono ?_;rintro e w8 ⟨rfl,hB⟩;replace HB:=je HB.out hB
  (try replace HO:=hid (HO.out.below hB HO.out.lt))
  clear hB
  go_wp2_with fail
  refine(qx _ _ _).mono ?_;rintro e w8 ⟨rfl,hB⟩;replace HB:=je (HB.out.alloc HB.out.size _) hB
  (try replace HO:=hid ((HO.out.alloc _).below hB (HO.out.alloc _).lt))
  clear hB;rw[HF.out]
  go_wp2_with fail
  refine(IW.out _).mono ?_;rintro e w8 ⟨rfl,rfl⟩
  go_wp2_with fail
  refine(SG.out _).mono ?_;rintro e w8 ⟨rfl,rfl⟩
  go_wp2_with fail
  refine(xf 3 _ _ (by decide)).mono ?_;rintro e w8 ⟨rfl,hB⟩;replace HB:=je HB.out hB
  (try replace HO:=hid (HO.out.below hB HO.out.lt))
  clear hB
  go_wp2
  go_ret;exact⟨by simp,HB.out⟩
theorem ED (p:List Int) (v:Value) (n:Int) (l:List UInt8) (w:World) (H:zM p v n l w) (HP:zQ p) (hn:0≤n∧n≤30) (hk:(jn l).1=0) (hd:(jn l).2.den=1) (hs:¬(jn l).2.num<0) (hf:jw n.toNat≤(jn l).2.num.natAbs):qK v n l w:=by
 obtain⟨hv,hG,hl⟩:=H;unfold qK;obtain⟨A,c,rfl,hc1,hc2⟩:=hv.form;simp only[jQ] at *;have HG:=hid hG;have HV:=hid hv;have HB:=hid (Below.refl w.heap.size w);have CP:=hid (fun W (hb:Below w.heap.size w W)=>JD _ p W (HV.out.below hb));have CK:=hid (fun W=>JE l W (by omega));have n30:decide ((30:Int)<n)=false:=decide_eq_false (by omega);have n0:decide (n<0)=false:=decide_eq_false (by omega);have n6:decide ((256:Int)<n)=false:=decide_eq_false (by omega);have WH:=hid (fun W=>JM false 3 W);obtain⟨m,rfl⟩:=Int.eq_ofNat_of_zero_le hn.1
 have hm:m≤30:=by omega
 obtain⟨t1,q1,q2⟩:=Xw l hk (by omega);have hq:=QJ q1 q2;have IW:=hid (fun W=>JQ (jn l).2 W hq.bigD);rw[t1] at IW;have HF:Hid (xT 0 0=0):=hid rfl;have SG:=hid (fun W=>Km l W (by omega))
 have hts:kP l=j5 (jn l).2:=by rw[←t1];rw[Ks,t1]
 rw[hts] at SG;have FC:=hid (fun W=>X8 m W hm);have CM:=hid (fun W=>Z7 (jn l).2 ((jw m:Int):Rat) W hq (yH (qP (KN hm))));rw[t1,qO] at CM;have hrn:(jn l).2=(((jn l).2.num.natAbs:Int):Rat):=V6 hd hs;rw[decide_eq_true hd] at IW;rw[hk] at CK;have hrs:0≤j5 (jn l).2:=WN hs
 have hrs':¬j5 (jn l).2<0:=by omega
 have UN:=hid (fun W hG=>JU (m:Int) l W hl hG 3 (by unfold qe;rw[if_neg (by omega),if_neg (by rw[hk];decide),if_neg (by rintro (h | h);exact hs h;exact h hd),if_pos (by rw[YN];exact Nat.ne_of_gt (Nat.div_pos hf (YL _)))]) (by decide))
 have hcs:0≤j5 ((jn l).2-((jw m:Int):Rat)):=by rw[hrn];exact RJ (by rw[Int.toNat_natCast] at hf;exact hf)
 generalize j5 ((jn l).2-((jw m:Int):Rat))=cs at *;generalize j5 (jn l).2=rs at *;clear hn hk hd hq q1 q2 t1 hts hs hf hrn hrs;generalize hss:(⟨l.toArray⟩:ByteArray)=s at *
 have hz:s.size=l.length:=by rw[←hss];simp[ByteArray.size]
 have hI:decide ((40:Int)<(s.size:Int))=false:=decide_eq_false (by omega);clear hss hz hl hG hv
 rcases HP with ⟨hpl,hpe⟩ | ⟨hpl,hpe⟩ | ⟨hpl,hpl2,hpe⟩
 ·have P1:decide ((30:Int)<(p.length:Int))=false:=decide_eq_false (by omega)
  have P2:decide ((260:Int)<(p.length:Int))=false:=decide_eq_false (by omega);have RK:=hid (fun W (hb:Below w.heap.size w W)=>xz _ p W (HV.out.below hb) (HG.out.below hb) hpe);have NB:=hid (xG (ji p) [] · hpe)
  have hp1:(ji p != 0)=true:=by simpa using hpe
  have hp2:(ji p==0)=false:=by simpa using hpe
  generalize ji p=pe at *;clear hpe hpl;go_enter Tryz.func6,Tryz.ntmps6
  go_wp2_with fail
  refine(qg _ (HG.out.below HB.out)).mono ?_;rintro e w8 ⟨rfl,hB⟩;replace HB:=je HB.out hB
  (try replace HO:=hid (HO.out.below hB HO.out.lt))
  clear hB
  go_wp2_with fail
  refine(RK.out _ HB.out).mono ?_;rintro e w8 ⟨rfl,hB⟩;replace HB:=je HB.out hB
  (try replace HO:=hid (HO.out.below hB HO.out.lt))
  clear hB
  go_wp2_with fail
  refine(UN.out _ (HG.out.below HB.out)).mono ?_;rintro e w8 ⟨rfl,hB⟩;replace HB:=je HB.out hB;clear hB
  go_wp2_with fail
  refine(CP.out _ HB.out).mono ?_;rintro e w8 ⟨rfl,hB⟩;replace HB:=je HB.out hB
  (try replace HO:=hid (HO.out.below hB HO.out.lt))
  clear hB
  go_wp2_with fail
  refine(NB.out _).mono ?_;rintro e w8 ⟨rfl,rfl⟩
  go_wp2_with fail
  refine(WH.out _).mono ?_;rintro e w8 ⟨rfl,rfl⟩
  go_wp2_with fail
  refine(CK.out _).mono ?_;rintro e w8 ⟨rfl,hB⟩;replace HB:=je HB.out hB
  (try replace HO:=hid (HO.out.below hB HO.out.lt))
  clear hB
  go_wp2_with fail
  refine(qx _ _ _).mono ?_;rintro e w8 ⟨rfl,hB⟩;replace HB:=je (HB.out.alloc HB.out.size _) hB
  (try replace HO:=hid ((HO.out.alloc _).below hB (HO.out.alloc _).lt))
  clear hB;rw[HF.out]
  go_wp2_with fail
  refine(IW.out _).mono ?_;rintro e w8 ⟨rfl,rfl⟩
  go_wp2_with fail
  refine(SG.out _).mono ?_;rintro e w8 ⟨rfl,rfl⟩
  go_wp2_with fail
  refine(FC.out _).mono ?_;rintro e w8 ⟨rfl,hB⟩;replace HB:=je HB.out hB
  (try replace HO:=hid (HO.out.below hB HO.out.lt))
  clear hB
  go_wp2_with fail
  refine(CM.out _).mono ?_;rintro e w8 ⟨rfl,hB⟩;replace HB:=je HB.out hB
  (try replace HO:=hid (HO.out.below hB HO.out.lt))
  clear hB
  go_wp2_with fail
  refine(xf 3 _ _ (by decide)).mono ?_;rintro e w8 ⟨rfl,hB⟩;replace HB:=je HB.out hB
  (try replace HO:=hid (HO.out.below hB HO.out.lt))
  clear hB
  go_wp2
  go_ret;exact⟨by simp,HB.out⟩
 ·have P1:decide ((30:Int)<(p.length:Int))=false:=decide_eq_false (by omega)
  have P2:decide ((260:Int)<(p.length:Int))=false:=decide_eq_false (by omega);have RK:=hid (fun W (hb:Below w.heap.size w W)=>Jm _ p W (HV.out.below hb) (HG.out.below hb) hpe hpl);have RR:=hid (fun W (hb:Below w.heap.size w W)=>JF _ p W (HV.out.below hb) hpl);have NO:=hid (fun W=>Jz _ W (xp (xq p hpl)).2.1 (xp (xq p hpl)).2.2);rw[hpe] at CP;generalize decDigits (ka p p.length)=tr at *;clear hpe hpl;go_enter Tryz.func6,Tryz.ntmps6
  go_wp2_with fail
  refine(qg _ (HG.out.below HB.out)).mono ?_;rintro e w8 ⟨rfl,hB⟩;replace HB:=je HB.out hB
  (try replace HO:=hid (HO.out.below hB HO.out.lt))
  clear hB
  go_wp2_with fail
  refine(RK.out _ HB.out).mono ?_;rintro e w8 ⟨rfl,hB⟩;replace HB:=je HB.out hB
  (try replace HO:=hid (HO.out.below hB HO.out.lt))
  clear hB
  go_wp2_with fail
  refine(UN.out _ (HG.out.below HB.out)).mono ?_;rintro e w8 ⟨rfl,hB⟩;replace HB:=je HB.out hB;clear hB
  go_wp2_with fail
  refine(CP.out _ HB.out).mono ?_;rintro e w8 ⟨rfl,hB⟩;replace HB:=je HB.out hB
  (try replace HO:=hid (HO.out.below hB HO.out.lt))
  clear hB
  go_wp2_with fail
  refine(RR.out _ HB.out).mono ?_;rintro e w8 ⟨rfl,hB⟩;replace HB:=je HB.out hB
  (try replace HO:=hid (HO.out.below hB HO.out.lt))
  clear hB
  go_wp2_with fail
  refine(NO.out _).mono ?_;rintro e w8 ⟨rfl,rfl⟩
  go_wp2_with fail
  refine(WH.out _).mono ?_;rintro e w8 ⟨rfl,rfl⟩
  go_wp2_with fail
  refine(CK.out _).mono ?_;rintro e w8 ⟨rfl,hB⟩;replace HB:=je HB.out hB
  (try replace HO:=hid (HO.out.below hB HO.out.lt))
  clear hB
  go_wp2_with fail
  refine(qx _ _ _).mono ?_;rintro e w8 ⟨rfl,hB⟩;replace HB:=je (HB.out.alloc HB.out.size _) hB
  (try replace HO:=hid ((HO.out.alloc _).below hB (HO.out.alloc _).lt))
  clear hB;rw[HF.out]
  go_wp2_with fail
  refine(IW.out _).mono ?_;rintro e w8 ⟨rfl,rfl⟩
  go_wp2_with fail
  refine(SG.out _).mono ?_;rintro e w8 ⟨rfl,rfl⟩
  go_wp2_with fail
  refine(FC.out _).mono ?_;rintro e w8 ⟨rfl,hB⟩;replace HB:=je HB.out hB
  (try replace HO:=hid (HO.out.below hB HO.out.lt))
  clear hB
  go_wp2_with fail
  refine(CM.out _).mono ?_;rintro e w8 ⟨rfl,hB⟩;replace HB:=je HB.out hB
  (try replace HO:=hid (HO.out.below hB HO.out.lt))
  clear hB
  go_wp2_with fail
  refine(xf 3 _ _ (by decide)).mono ?_;rintro e w8 ⟨rfl,hB⟩;replace HB:=je HB.out hB
  (try replace HO:=hid (HO.out.below hB HO.out.lt))
  clear hB
  go_wp2
  go_ret;exact⟨by simp,HB.out⟩
 ·have P1:(30:Int)<(p.length:Int):=by omega
  have P3:decide ((p.length:Int)≤256)=false:=decide_eq_false (by omega);have P2:decide ((260:Int)<(p.length:Int))=false:=decide_eq_false (by omega);have RK:=hid (fun W (hb:Below w.heap.size w W)=>xz _ p W (HV.out.below hb) (HG.out.below hb) hpe);have NB:=hid (xG (ji p) [] · hpe)
  have hp1:(ji p != 0)=true:=by simpa using hpe
  have hp2:(ji p==0)=false:=by simpa using hpe
  generalize ji p=pe at *;clear hpe hpl hpl2;go_enter Tryz.func6,Tryz.ntmps6
  go_wp2_with fail
  refine(qg _ (HG.out.below HB.out)).mono ?_;rintro e w8 ⟨rfl,hB⟩;replace HB:=je HB.out hB
  (try replace HO:=hid (HO.out.below hB HO.out.lt))
  clear hB
  go_wp2_with fail
  refine(RK.out _ HB.out).mono ?_;rintro e w8 ⟨rfl,hB⟩;replace HB:=je HB.out hB
  (try replace HO:=hid (HO.out.below hB HO.out.lt))
  clear hB
  go_wp2_with fail
  refine(UN.out _ (HG.out.below HB.out)).mono ?_;rintro e w8 ⟨rfl,hB⟩;replace HB:=je HB.out hB;clear hB
  go_wp2_with fail
  refine(CP.out _ HB.out).mono ?_;rintro e w8 ⟨rfl,hB⟩;replace HB:=je HB.out hB
  (try replace HO:=hid (HO.out.below hB HO.out.lt))
  clear hB
  go_wp2_with fail
  refine(NB.out _).mono ?_;rintro e w8 ⟨rfl,rfl⟩
  go_wp2_with fail
  refine(WH.out _).mono ?_;rintro e w8 ⟨rfl,rfl⟩
  go_wp2_with fail
  refine(CK.out _).mono ?_;rintro e w8 ⟨rfl,hB⟩;replace HB:=je HB.out hB
  (try replace HO:=hid (HO.out.below hB HO.out.lt))
  clear hB
  go_wp2_with fail
  refine(qx _ _ _).mono ?_;rintro e w8 ⟨rfl,hB⟩;replace HB:=je (HB.out.alloc HB.out.size _) hB
  (try replace HO:=hid ((HO.out.alloc _).below hB (HO.out.alloc _).lt))
  clear hB;rw[HF.out]
  go_wp2_with fail
  refine(IW.out _).mono ?_;rintro e w8 ⟨rfl,rfl⟩
  go_wp2_with fail
  refine(SG.out _).mono ?_;rintro e w8 ⟨rfl,rfl⟩
  go_wp2_with fail
  refine(FC.out _).mono ?_;rintro e w8 ⟨rfl,hB⟩;replace HB:=je HB.out hB
  (try replace HO:=hid (HO.out.below hB HO.out.lt))
  clear hB
  go_wp2_with fail
  refine(CM.out _).mono ?_;rintro e w8 ⟨rfl,hB⟩;replace HB:=je HB.out hB
  (try replace HO:=hid (HO.out.below hB HO.out.lt))
  clear hB
  go_wp2_with fail
  refine(xf 3 _ _ (by decide)).mono ?_;rintro e w8 ⟨rfl,hB⟩;replace HB:=je HB.out hB
  (try replace HO:=hid (HO.out.below hB HO.out.lt))
  clear hB
  go_wp2
  go_ret;exact⟨by simp,HB.out⟩
theorem EG (p:List Int) (v:Value) (n:Int) (l:List UInt8) (w:World) (H:zM p v n l w) (HP:zQ p) (hn:0≤n∧n≤30) (hk:(jn l).1=0) (hd:(jn l).2.den=1) (hs:¬(jn l).2.num<0) (hf:(jn l).2.num.natAbs<jw n.toNat):qK v n l w:=by
 obtain⟨hv,hG,hl⟩:=H;unfold qK;obtain⟨A,c,rfl,hc1,hc2⟩:=hv.form;simp only[jQ] at *;have HG:=hid hG;have HV:=hid hv;have HB:=hid (Below.refl w.heap.size w);have CP:=hid (fun W (hb:Below w.heap.size w W)=>JD _ p W (HV.out.below hb));have CK:=hid (fun W=>JE l W (by omega));have n30:decide ((30:Int)<n)=false:=decide_eq_false (by omega);have n0:decide (n<0)=false:=decide_eq_false (by omega);have n6:decide ((256:Int)<n)=false:=decide_eq_false (by omega);have WH:=hid (fun W=>JM false 3 W);obtain⟨m,rfl⟩:=Int.eq_ofNat_of_zero_le hn.1
 have hm:m≤30:=by omega
 obtain⟨t1,q1,q2⟩:=Xw l hk (by omega);have hq:=QJ q1 q2;have IW:=hid (fun W=>JQ (jn l).2 W hq.bigD);rw[t1] at IW;have HF:Hid (xT 0 0=0):=hid rfl;have SG:=hid (fun W=>Km l W (by omega))
 have hts:kP l=j5 (jn l).2:=by rw[←t1];rw[Ks,t1]
 rw[hts] at SG;have FC:=hid (fun W=>X8 m W hm);have CM:=hid (fun W=>Z7 (jn l).2 ((jw m:Int):Rat) W hq (yH (qP (KN hm))));rw[t1,qO] at CM;have hrn:(jn l).2=(((jn l).2.num.natAbs:Int):Rat):=V6 hd hs;rw[decide_eq_true hd] at IW;rw[hk] at CK;have hrs:0≤j5 (jn l).2:=WN hs
 have hrs':¬j5 (jn l).2<0:=by omega
 rw[Int.toNat_natCast] at hf;have UN:=hid (fun W hG=>M7 m l W hl hG (by unfold qe;rw[if_neg (by omega),if_neg (by rw[hk];decide),if_neg (by rintro (h | h);exact hs h;exact h hd),if_neg (by rw[Int.toNat_natCast,YN,Nat.div_eq_of_lt hf];simp)]))
 have hcs:¬0≤j5 ((jn l).2-((jw m:Int):Rat)):=by rw[hrn];exact RL hf
 have RU:=hid (fun W=>BV m (jn l).2.num.natAbs W hm hf)
 have hlt:decDigits (jn l).2.num.natAbs=l:=by rw[←qO,←hrn,t1]
 rw[hlt] at RU
 have HLEN:Hid ((jc (jT (kg (jn l).2.num.natAbs m m) m).1).length=m):=hid (by
  have h:=(Zl (YM (jn l).2.num.natAbs m) m (by rw[y8];exact Nat.le_refl _)).1
  rw[jQ];exact h)
 generalize j5 ((jn l).2-((jw m:Int):Rat))=cs at *;generalize j5 (jn l).2=rs at *;generalize (jT (kg (jn l).2.num.natAbs m m) m).1=PL at *;have HM:=hid hm;clear hn hk hd hq q1 q2 t1 hts hs hf hrn hrs hlt;generalize hss:(⟨l.toArray⟩:ByteArray)=s at *
 have hz:s.size=l.length:=by rw[←hss];simp[ByteArray.size]
 have hI:decide ((40:Int)<(s.size:Int))=false:=decide_eq_false (by omega);clear hss hz hl hG hv
 rcases HP with ⟨hpl,hpe⟩ | ⟨hpl,hpe⟩ | ⟨hpl,hpl2,hpe⟩
 ·have P1:decide ((30:Int)<(p.length:Int))=false:=decide_eq_false (by omega)
  have P2:decide ((260:Int)<(p.length:Int))=false:=decide_eq_false (by omega);have RK:=hid (fun W (hb:Below w.heap.size w W)=>xz _ p W (HV.out.below hb) (HG.out.below hb) hpe);have NB:=hid (xG (ji p) [] · hpe)
  have hp1:(ji p != 0)=true:=by simpa using hpe
  have hp2:(ji p==0)=false:=by simpa using hpe
  generalize ji p=pe at *;clear hpe hpl;go_enter Tryz.func6,Tryz.ntmps6
  go_wp2_with fail
  refine(qg _ (HG.out.below HB.out)).mono ?_;rintro e w8 ⟨rfl,hB⟩;replace HB:=je HB.out hB
  (try replace HO:=hid (HO.out.below hB HO.out.lt))
  clear hB
  go_wp2_with fail
  refine(RK.out _ HB.out).mono ?_;rintro e w8 ⟨rfl,hB⟩;replace HB:=je HB.out hB
  (try replace HO:=hid (HO.out.below hB HO.out.lt))
  clear hB
  go_wp2_with fail
  refine(UN.out _ (HG.out.below HB.out)).mono ?_;rintro e w8 ⟨⟨gu,rfl,hO⟩,hB⟩;replace HB:=je HB.out hB;have HO:=hid hO;clear hB hO
  go_wp2_with fail
  refine(CP.out _ HB.out).mono ?_;rintro e w8 ⟨rfl,hB⟩;replace HB:=je HB.out hB
  (try replace HO:=hid (HO.out.below hB HO.out.lt))
  clear hB
  go_wp2_with fail
  refine(NB.out _).mono ?_;rintro e w8 ⟨rfl,rfl⟩
  go_wp2_with fail
  refine(WH.out _).mono ?_;rintro e w8 ⟨rfl,rfl⟩
  go_wp2_with fail
  refine(CK.out _).mono ?_;rintro e w8 ⟨rfl,hB⟩;replace HB:=je HB.out hB
  (try replace HO:=hid (HO.out.below hB HO.out.lt))
  clear hB
  go_wp2_with fail
  refine(qx _ _ _).mono ?_;rintro e w8 ⟨rfl,hB⟩;replace HB:=je (HB.out.alloc HB.out.size _) hB
  (try replace HO:=hid ((HO.out.alloc _).below hB (HO.out.alloc _).lt))
  clear hB;rw[HF.out]
  go_wp2_with fail
  refine(IW.out _).mono ?_;rintro e w8 ⟨rfl,rfl⟩
  go_wp2_with fail
  refine(SG.out _).mono ?_;rintro e w8 ⟨rfl,rfl⟩
  go_wp2_with fail
  refine(FC.out _).mono ?_;rintro e w8 ⟨rfl,hB⟩;replace HB:=je HB.out hB
  (try replace HO:=hid (HO.out.below hB HO.out.lt))
  clear hB
  go_wp2_with fail
  refine(CM.out _).mono ?_;rintro e w8 ⟨rfl,hB⟩;replace HB:=je HB.out hB
  (try replace HO:=hid (HO.out.below hB HO.out.lt))
  clear hB
  go_wp2_with fail
  refine(RU.out _).mono ?_;rintro e w8 ⟨rv,rfl,hrv,hB⟩;replace HB:=je HB.out hB;replace HO:=hid (HO.out.below hB HO.out.lt);have LO:=hid (YZ PL _ rv _ (Zk HO.out HLEN.out (by have:=HM.out;omega)) hrv);clear hB hrv
  go_wp2_with fail
  refine LO.out.mono ?_;rintro e w8 ⟨rfl,hB⟩;replace HB:=je HB.out hB;clear hB
  go_wp2
  go_ret;exact⟨by simp,HB.out⟩
 ·have P1:decide ((30:Int)<(p.length:Int))=false:=decide_eq_false (by omega)
  have P2:decide ((260:Int)<(p.length:Int))=false:=decide_eq_false (by omega);have RK:=hid (fun W (hb:Below w.heap.size w W)=>Jm _ p W (HV.out.below hb) (HG.out.below hb) hpe hpl);have RR:=hid (fun W (hb:Below w.heap.size w W)=>JF _ p W (HV.out.below hb) hpl);have NO:=hid (fun W=>Jz _ W (xp (xq p hpl)).2.1 (xp (xq p hpl)).2.2);rw[hpe] at CP;generalize decDigits (ka p p.length)=tr at *;clear hpe hpl;go_enter Tryz.func6,Tryz.ntmps6
  go_wp2_with fail
  refine(qg _ (HG.out.below HB.out)).mono ?_;rintro e w8 ⟨rfl,hB⟩;replace HB:=je HB.out hB
  (try replace HO:=hid (HO.out.below hB HO.out.lt))
  clear hB
  go_wp2_with fail
  refine(RK.out _ HB.out).mono ?_;rintro e w8 ⟨rfl,hB⟩;replace HB:=je HB.out hB
  (try replace HO:=hid (HO.out.below hB HO.out.lt))
  clear hB
  go_wp2_with fail
  refine(UN.out _ (HG.out.below HB.out)).mono ?_;rintro e w8 ⟨⟨gu,rfl,hO⟩,hB⟩;replace HB:=je HB.out hB;have HO:=hid hO;clear hB hO
  go_wp2_with fail
  refine(CP.out _ HB.out).mono ?_;rintro e w8 ⟨rfl,hB⟩;replace HB:=je HB.out hB
  (try replace HO:=hid (HO.out.below hB HO.out.lt))
  clear hB
  go_wp2_with fail
  refine(RR.out _ HB.out).mono ?_;rintro e w8 ⟨rfl,hB⟩;replace HB:=je HB.out hB
  (try replace HO:=hid (HO.out.below hB HO.out.lt))
  clear hB
  go_wp2_with fail
  refine(NO.out _).mono ?_;rintro e w8 ⟨rfl,rfl⟩
  go_wp2_with fail
  refine(WH.out _).mono ?_;rintro e w8 ⟨rfl,rfl⟩
  go_wp2_with fail
  refine(CK.out _).mono ?_;rintro e w8 ⟨rfl,hB⟩;replace HB:=je HB.out hB
  (try replace HO:=hid (HO.out.below hB HO.out.lt))
  clear hB
  go_wp2_with fail
  refine(qx _ _ _).mono ?_;rintro e w8 ⟨rfl,hB⟩;replace HB:=je (HB.out.alloc HB.out.size _) hB
  (try replace HO:=hid ((HO.out.alloc _).below hB (HO.out.alloc _).lt))
  clear hB;rw[HF.out]
  go_wp2_with fail
  refine(IW.out _).mono ?_;rintro e w8 ⟨rfl,rfl⟩
  go_wp2_with fail
  refine(SG.out _).mono ?_;rintro e w8 ⟨rfl,rfl⟩
  go_wp2_with fail
  refine(FC.out _).mono ?_;rintro e w8 ⟨rfl,hB⟩;replace HB:=je HB.out hB
  (try replace HO:=hid (HO.out.below hB HO.out.lt))
  clear hB
  go_wp2_with fail
  refine(CM.out _).mono ?_;rintro e w8 ⟨rfl,hB⟩;replace HB:=je HB.out hB
  (try replace HO:=hid (HO.out.below hB HO.out.lt))
  clear hB
  go_wp2_with fail
  refine(RU.out _).mono ?_;rintro e w8 ⟨rv,rfl,hrv,hB⟩;replace HB:=je HB.out hB;replace HO:=hid (HO.out.below hB HO.out.lt);have LO:=hid (YZ PL _ rv _ (Zk HO.out HLEN.out (by have:=HM.out;omega)) hrv);clear hB hrv
  go_wp2_with fail
  refine LO.out.mono ?_;rintro e w8 ⟨rfl,hB⟩;replace HB:=je HB.out hB;clear hB
  go_wp2
  go_ret;exact⟨by simp,HB.out⟩
 ·have P1:(30:Int)<(p.length:Int):=by omega
  have P3:decide ((p.length:Int)≤256)=false:=decide_eq_false (by omega);have P2:decide ((260:Int)<(p.length:Int))=false:=decide_eq_false (by omega);have RK:=hid (fun W (hb:Below w.heap.size w W)=>xz _ p W (HV.out.below hb) (HG.out.below hb) hpe);have NB:=hid (xG (ji p) [] · hpe)
  have hp1:(ji p != 0)=true:=by simpa using hpe
  have hp2:(ji p==0)=false:=by simpa using hpe
  generalize ji p=pe at *;clear hpe hpl hpl2;go_enter Tryz.func6,Tryz.ntmps6
  go_wp2_with fail
  refine(qg _ (HG.out.below HB.out)).mono ?_;rintro e w8 ⟨rfl,hB⟩;replace HB:=je HB.out hB
  (try replace HO:=hid (HO.out.below hB HO.out.lt))
  clear hB
  go_wp2_with fail
  refine(RK.out _ HB.out).mono ?_;rintro e w8 ⟨rfl,hB⟩;replace HB:=je HB.out hB
  (try replace HO:=hid (HO.out.below hB HO.out.lt))
  clear hB
  go_wp2_with fail
  refine(UN.out _ (HG.out.below HB.out)).mono ?_;rintro e w8 ⟨⟨gu,rfl,hO⟩,hB⟩;replace HB:=je HB.out hB;have HO:=hid hO;clear hB hO
  go_wp2_with fail
  refine(CP.out _ HB.out).mono ?_;rintro e w8 ⟨rfl,hB⟩;replace HB:=je HB.out hB
  (try replace HO:=hid (HO.out.below hB HO.out.lt))
  clear hB
  go_wp2_with fail
  refine(NB.out _).mono ?_;rintro e w8 ⟨rfl,rfl⟩
  go_wp2_with fail
  refine(WH.out _).mono ?_;rintro e w8 ⟨rfl,rfl⟩
  go_wp2_with fail
  refine(CK.out _).mono ?_;rintro e w8 ⟨rfl,hB⟩;replace HB:=je HB.out hB
  (try replace HO:=hid (HO.out.below hB HO.out.lt))
  clear hB
  go_wp2_with fail
  refine(qx _ _ _).mono ?_;rintro e w8 ⟨rfl,hB⟩;replace HB:=je (HB.out.alloc HB.out.size _) hB
  (try replace HO:=hid ((HO.out.alloc _).below hB (HO.out.alloc _).lt))
  clear hB;rw[HF.out]
  go_wp2_with fail
  refine(IW.out _).mono ?_;rintro e w8 ⟨rfl,rfl⟩
  go_wp2_with fail
  refine(SG.out _).mono ?_;rintro e w8 ⟨rfl,rfl⟩
  go_wp2_with fail
  refine(FC.out _).mono ?_;rintro e w8 ⟨rfl,hB⟩;replace HB:=je HB.out hB
  (try replace HO:=hid (HO.out.below hB HO.out.lt))
  clear hB
  go_wp2_with fail
  refine(CM.out _).mono ?_;rintro e w8 ⟨rfl,hB⟩;replace HB:=je HB.out hB
  (try replace HO:=hid (HO.out.below hB HO.out.lt))
  clear hB
  go_wp2_with fail
  refine(RU.out _).mono ?_;rintro e w8 ⟨rv,rfl,hrv,hB⟩;replace HB:=je HB.out hB;replace HO:=hid (HO.out.below hB HO.out.lt);have LO:=hid (YZ PL _ rv _ (Zk HO.out HLEN.out (by have:=HM.out;omega)) hrv);clear hB hrv
  go_wp2_with fail
  refine LO.out.mono ?_;rintro e w8 ⟨rfl,hB⟩;replace HB:=je HB.out hB;clear hB
  go_wp2
  go_ret;exact⟨by simp,HB.out⟩
