/- The law AlgebraNumbers. -/
import Derived.Test.YtneafcdfnhnpnaaGreatDoorZU28
import Derived.Test.YtneafcdfnhnpnaaGreatDoorZU33
import Derived.Test.YtneafcdfnhnpnaaGreatDoorTie
import Derived.Test.YtneafcdfnhnpnaaGreatDoorCards
import Derived.ProofKit
import Derived.LaidMore
import Derived.LaidSub
import Derived.OpenShut
import Derived.Stop.Joined
import Derived.Lib.LaidTab
import Derived.Shelf.Vars
import Derived.SizedLaws
import Derived.LaidLaws
import Derived.SevenTiedAt
set_option maxRecDepth 100000
set_option maxHeartbeats 16000000
namespace Go.Proofs.YtneafcdfnhnpnaaGreatDoor
open Go.RowKit Go.Lib
theorem bt8 {w a b:World} (h:Below w.heap.size w a) (k:Below a.heap.size a b):Hid (Below w.heap.size w b):=hid (h.trans (k.mono h.size))
theorem an_long (l1 l2:List UInt8) (w:World) (hs:1400<l1.length) (hs2:l1.length≤9223372036854775807) (hG:Glob w):
  Calls Tryz.prog 3 #[.string ⟨l1.toArray⟩,.string ⟨l2.toArray⟩] w fun e w'=>e = .returned (.bool true)∧Below w.heap.size w w':=by
 have HG:=hid hG
 generalize hss:(⟨l1.toArray⟩:ByteArray)=s
 generalize (⟨l2.toArray⟩:ByteArray)=t
 have hz:s.size=l1.length:=by rw[←hss];simp[ByteArray.size]
 have hI:(1400:Int)<(s.size:Int):=by omega
 have hI2:(s.size:Int)≤9223372036854775807:=by omega
 clear hs hs2 hG hz hss
 go_enter Tryz.func3,Tryz.ntmps3
 go_wp2_with fail
 refine(awake_c _ HG.out).mono ?_
 rintro e w1 ⟨rfl,hB⟩
 have HB:=hid hB
 clear hB
 go_wp2_with fail
 refine(awake_c _ (HG.out.below HB.out)).mono ?_
 rintro e w2 ⟨rfl,hB⟩
 have HB2:=hid (HB.out.trans (hB.mono HB.out.size))
 clear hB
 go_wp2
 go_ret
 exact⟨rfl,HB2.out⟩
theorem okL (n:Nat):OkLen n:= .inr deeps
theorem an_mid (l1 l2:List UInt8) (w:World) (hs:l1.length≤1400) (hs2:60<l1.length∨(l1.length≤60∧60<l2.length)) (hs3:l2.length≤9223372036854775807) (hG:Glob w):
  Calls Tryz.prog 3 #[.string ⟨l1.toArray⟩,.string ⟨l2.toArray⟩] w fun e w'=>e = .returned (.bool true)∧Below w.heap.size w w':=by
 have HG:=hid hG
 have CP:=hid (fun W hG=>CheckP_c l1 W (by omega) hG (okL _))
 have CR:=hid (fun W=>refCheck_c l1 W (by omega))
 generalize (readRes l1).1=k at *
 generalize hss:(⟨l1.toArray⟩:ByteArray)=s at *
 generalize htt:(⟨l2.toArray⟩:ByteArray)=t at *
 have hz:s.size=l1.length:=by rw[←hss];simp[ByteArray.size]
 have hz2:t.size=l2.length:=by rw[←htt];simp[ByteArray.size]
 have hI:¬(1400:Int)<(s.size:Int):=by omega
 have hs2':(60:Int)<(s.size:Int)∨(¬(60:Int)<(s.size:Int)∧(60:Int)<(t.size:Int)):=by omega
 have hI3:(t.size:Int)≤9223372036854775807:=by omega
 clear hs hs2 hs3 hG hz hz2 hss htt
 rcases hs2' with h6 | ⟨h6,h7⟩
 all_goals (
  go_enter Tryz.func3,Tryz.ntmps3
  go_wp2_with fail
  refine(awake_c _ HG.out).mono ?_
  rintro e w1 ⟨rfl,hB⟩
  have HB:=hid hB
  clear hB
  go_wp2_with fail
  refine(CP.out _ (HG.out.below HB.out)).mono ?_
  rintro e w2 ⟨rfl,hB⟩
  have HB2:=bt8 HB.out hB
  clear hB
  go_wp2_with fail
  refine(CR.out _).mono ?_
  rintro e w3 ⟨rfl,hB⟩
  have HB3:=bt8 HB2.out hB
  clear hB
  go_wp2
  go_ret
  exact⟨rfl,HB3.out⟩)
theorem readRes_bad (l:List UInt8) (h:(readRes l).1≠0):(readRes l).2=0:=by
 revert h
 unfold readRes readParts
 repeat' split
 all_goals first
  | (intro _;rfl)
  | (intro h;exact absurd rfl h)
theorem CompareX_c {l1 l2:List UInt8} {w:World} (H:Tx l1 l2 w):Calls Tryz.prog 22 #[.string ⟨l1.toArray⟩,.string ⟨l2.toArray⟩] w fun e w'=>e = .returned (.tuple #[.int .i64 (if err2 l1 l2=0 then ratSign ((readRes l1).2-(readRes l2).2) else 0),.int .i64 (err2 l1 l2)])∧Below w.heap.size w w':=by
 refine Compare_c l1 l2 w H.h1 H.h2 H.hG H.o1 H.o2 ?_
 have z:∀l:List UInt8,(readRes l).2.num.natAbs<10^K600∧(readRes l).2.den<10^K600:=fun l=>by
  by_cases h:(readRes l).1=0
  ·exact(readRes_text l h).2
  ·rw[readRes_bad l h]
   exact⟨Nat.pow_pos (by decide),Nat.one_lt_pow (by rw[K600_eq];decide) (by decide)⟩
 exact fit600 (z l1).1 (z l1).2 (z l2).1 (z l2).2
theorem read60 (l:List UInt8) (h:(readRes l).1=0) (hl:l.length≤60):rtext (readRes l).2=l∧(readRes l).2.num.natAbs<10^60∧(readRes l).2.den<10^60:=by
 obtain⟨t,_,_⟩:=readRes_text l h
 refine⟨t,?_,?_⟩
 ·have h1:(decDigits (readRes l).2.num.natAbs).length≤60:=by
   have:=congrArg List.length t
   unfold rtext at this
   rw[List.length_append,List.length_append] at this;omega
  have h2:=decVal_lt (dec_all (readRes l).2.num.natAbs)
  rw[dec_val] at h2
  exact Nat.lt_of_lt_of_le h2 (Nat.pow_le_pow_right (by decide) h1)
 ·by_cases hd:(readRes l).2.den=1
  ·rw[hd];decide
  ·have h1:(decDigits (readRes l).2.den).length≤60:=by
    have:=congrArg List.length t
    unfold rtext at this
    rw[List.length_append,List.length_append,if_neg hd,List.length_cons] at this;omega
   have h2:=decVal_lt (dec_all (readRes l).2.den)
   rw[dec_val] at h2
   exact Nat.lt_of_lt_of_le h2 (Nat.pow_le_pow_right (by decide) h1)
theorem bigH60 {q:Rat} (h1:q.num.natAbs<10^60) (h2:q.den<10^60):BigH q:=by
 have h3:10^60≤10^(9*7):=Nat.pow_le_pow_right (by decide) (by decide)
 rw[Nat.pow_mul] at h3
 have h4:(10^9)^7≤(10^9)^limH:=Nat.pow_le_pow_right (by decide) (by unfold limH;decide)
 exact⟨Nat.lt_of_lt_of_le h1 (Nat.le_trans h3 h4),Nat.lt_of_lt_of_le h2 (Nat.le_trans h3 h4)⟩
theorem short_txt {q:Rat} (h1:q.num.natAbs<10^130) (h2:q.den<10^130):¬tooLong q∧(rtext q).length≤4000000000000000000∧tLarge (rtext q)=0:=by
 have b1:=nDigits_le 129 q.num.natAbs h1
 have b2:=nDigits_le 129 q.den h2
 refine⟨by unfold tooLong;omega,?_,?_⟩
 ·unfold rtext
  rw[List.length_append,List.length_append,decDigits_length]
  have:(if q.den=1 then ([]:List UInt8) else 47::decDigits q.den).length≤131:=by
   split
   ·simp
   ·rw[List.length_cons,decDigits_length];omega
  have:(if q.num<0 then ([45]:List UInt8) else []).length≤1:=by split <;> simp
  omega
 ·rw[large_rtext,decDigits_length,decDigits_length,if_neg (by omega)]
theorem pow60:10^60*10^60+10^60*10^60≤10^130:=by
 have h1:10^60*10^60=10^(60+60):=(Nat.pow_add 10 60 60).symm
 have h2:10^(60+60)*10≤10^130:=by rw[←Nat.pow_succ];exact Nat.pow_le_pow_right (by decide) (by decide)
 rw[h1]
 generalize 10^(60+60)=P at *
 generalize 10^130=Q at *
 omega
section
variable {p q:Rat} (p1:p.num.natAbs<10^60) (p2:p.den<10^60) (q1:q.num.natAbs<10^60) (q2:q.den<10^60)
include p1 p2 q1 q2
theorem sh_add:¬tooLong (p+q)∧(rtext (p+q)).length≤4000000000000000000∧tLarge (rtext (p+q))=0:=by
 obtain⟨h1,h2⟩:=add_le p q
 have h3:=Nat.mul_lt_mul'' p1 q2
 have h3':=Nat.mul_lt_mul'' q1 p2
 have h4:=Nat.mul_lt_mul'' p2 q2
 have h5:=pow60
 refine short_txt ?_ ?_
 ·generalize 10^60*10^60=P at *;generalize 10^130=Q at *;omega
 ·generalize 10^60*10^60=P at *;generalize 10^130=Q at *;omega
theorem sh_sub:¬tooLong (p-q)∧(rtext (p-q)).length≤4000000000000000000∧tLarge (rtext (p-q))=0:=by
 rw[Rat.sub_eq_add_neg]
 exact sh_add p1 p2 (q:=-q) (by rw[Rat.neg_num,Int.natAbs_neg];exact q1) (by rw[Rat.neg_den];exact q2)
theorem sh_mul:¬tooLong (p*q)∧(rtext (p*q)).length≤4000000000000000000∧tLarge (rtext (p*q))=0:=by
 obtain⟨h1,h2⟩:=mul_le p q
 have h3:=Nat.mul_lt_mul'' p1 q1
 have h4:=Nat.mul_lt_mul'' p2 q2
 have h5:=pow60
 refine short_txt ?_ ?_
 ·generalize 10^60*10^60=P at *;generalize 10^130=Q at *;omega
 ·generalize 10^60*10^60=P at *;generalize 10^130=Q at *;omega
end
theorem sh_div {p q:Rat} (h0:q≠0) (p1:p.num.natAbs<10^60) (p2:p.den<10^60) (q1:q.num.natAbs<10^60) (q2:q.den<10^60):¬tooLong (p/q)∧(rtext (p/q)).length≤4000000000000000000∧tLarge (rtext (p/q))=0:=by
 obtain⟨h1,h2⟩:=inv_parts q h0
 rw[Rat.div_def]
 exact sh_mul p1 p2 (Nat.lt_of_le_of_lt h1 q2) (Nat.lt_of_le_of_lt h2 q1)
structure AnH (l1 l2:List UInt8) (w:World):Prop where
 h1:l1.length≤60
 h2:l2.length≤60
 hG:Glob w
theorem AnH.tx {l1 l2:List UInt8} {w W:World} (h:AnH l1 l2 w) (hG:Glob W):Tx l1 l2 W:=⟨by have:=h.h1;omega,by have:=h.h2;omega,hG,okL _,okL _⟩
theorem lfirst2_c (x y:Int) (w:World):Calls Tryz.prog 23 #[.slice (some ⟨w.heap.size,0,none⟩) 2 2] (w.alloc (.cells #[.int .i64 x,.int .i64 y] 3)) fun e w'=>e = .returned (.int .i64 (first2 x y))∧Below (w.alloc (.cells #[.int .i64 x,.int .i64 y] 3)).heap.size (w.alloc (.cells #[.int .i64 x,.int .i64 y] 3)) w':=by
 have h:=lfirst_c _ [x,y] _ (Sl.lit w 3 #[.int .i64 x,.int .i64 y] 2 rfl (by omega))
 have e:firstL [x,y]=first2 x y:=by
  unfold firstL firstL firstL first2
  by_cases h:x=0
  ·rw[if_pos h,if_pos h];split <;> omega
  ·rw[if_neg h,if_neg h]
 rw[e] at h;exact h
def strPost (l:List UInt8) (k:Int) (w:World) (e:Ending) (w':World):Prop:=e = .returned (.tuple #[.string ⟨l.toArray⟩,.int .i64 k])∧Below w.heap.size w w'
def intPost (x k:Int) (w:World) (e:Ending) (w':World):Prop:=e = .returned (.tuple #[.int .i64 x,.int .i64 k])∧Below w.heap.size w w'
theorem comb_bad {k:Int} {r:Rat} {w:World} {e:Ending} {w':World} (hk:k≠0) (h:combPost k r w e w'):strPost [] k w e w':=by
 obtain⟨he,hB⟩:=h
 unfold combEnd at he
 rw[if_neg hk] at he
 exact⟨he,hB⟩
theorem comb_ok {k:Int} {r:Rat} {w:World} {e:Ending} {w':World} (hk:k=0) (hr:¬tooLong r) (h:combPost k r w e w'):strPost (rtext r) 0 w e w':=by
 obtain⟨he,hB⟩:=h
 unfold combEnd at he
 rw[if_pos hk,writeEnd_ok hr] at he
 exact⟨he,hB⟩
theorem first2_six {k:Int} (h:first2 k 0≠0):first2 k 6=first2 k 0:=by
 unfold first2 at h ⊢
 by_cases hk:k=0
 ·rw[if_pos hk] at h;exact absurd rfl h
 ·rw[if_neg hk,if_neg hk]
theorem read48:(readRes [48]).1=0:=by decide
theorem an_bad (l1 l2:List UInt8) (w:World) (H:AnH l1 l2 w) (hbad:err2 l1 l2≠0):
  Calls Tryz.prog 3 #[.string ⟨l1.toArray⟩,.string ⟨l2.toArray⟩] w fun e w'=>e = .returned (.bool true)∧Below w.heap.size w w':=by
 obtain⟨h1,h2,hG⟩:=id H
 have HG:=hid hG
 have CP:=hid (fun W hG=>CheckP_c l1 W (by omega) hG (okL _))
 have CR:=hid (fun W=>refCheck_c l1 W (by omega))
 have CR2:=hid (fun W=>refCheck_c l2 W (by omega))
 have AD:=hid (fun W hG=>(AddP_c (H.tx (W:=W) hG)).mono fun e w' h=>comb_bad hbad h)
 have SB:=hid (fun W hG=>(SubP_c (H.tx (W:=W) hG)).mono fun e w' h=>comb_bad hbad h)
 have MU:=hid (fun W hG=>(MulP_c (H.tx (W:=W) hG)).mono fun e w' h=>comb_bad hbad h)
 have DV:Hid (∀W,Glob W→Calls Tryz.prog 21 #[.string ⟨l1.toArray⟩,.string ⟨l2.toArray⟩] W (strPost [] (err2 l1 l2) W)):=hid (fun W hG=>by
  by_cases hd:l2=[48]
  ·subst hd
   refine(DivP_zero (H.tx (W:=W) hG)).mono fun e w' h=>⟨?_,h.2⟩
   have hb:first2 (readRes l1).1 0≠0:=by have h:=hbad;unfold err2 at h;rw[read48] at h;exact h
   rw[h.1,first2_six hb]
   show _=Ending.returned (.tuple #[.string ⟨#[]⟩,.int .i64 (first2 (readRes l1).1 (readRes [48]).1)])
   rw[read48]
  ·exact(DivP_c (H.tx (W:=W) hG) hd).mono fun e w' h=>comb_bad hbad h)
 have CO:Hid (∀W,Glob W→Calls Tryz.prog 22 #[.string ⟨l1.toArray⟩,.string ⟨l2.toArray⟩] W (intPost 0 (err2 l1 l2) W)):=hid (fun W hG=>(CompareX_c (H.tx (W:=W) hG)).mono fun e w' h=>⟨by rw[h.1,if_neg hbad],h.2⟩)
 have HF:Hid (first2 (readRes l1).1 (readRes l2).1=err2 l1 l2):=hid rfl
 have NB:=hid (numberBad_c (err2 l1 l2) [] · hbad)
 have IB:=hid (integerBad_c (err2 l1 l2) 0 · hbad)
 generalize err2 l1 l2=bad at *
 have hb2:(bad != 0)=true:=by simpa using hbad
 generalize (readRes l1).1=k1 at *
 generalize (readRes l2).1=k2 at *
 generalize hss:(⟨l1.toArray⟩:ByteArray)=s at *
 generalize htt:(⟨l2.toArray⟩:ByteArray)=t at *
 have hz:s.size=l1.length:=by rw[←hss];simp[ByteArray.size]
 have hz2:t.size=l2.length:=by rw[←htt];simp[ByteArray.size]
 have hI:¬(1400:Int)<(s.size:Int):=by omega
 have hI6:¬(60:Int)<(s.size:Int):=by omega
 have hI7:¬(60:Int)<(t.size:Int):=by omega
 clear h1 h2 hG hz hz2 hss htt H
 clear hbad
 go_enter Tryz.func3,Tryz.ntmps3
 go_wp2_with fail
 refine(awake_c _ HG.out).mono ?_
 rintro e w1 ⟨rfl,hB⟩
 have HB:=hid hB
 clear hB
 go_wp2_with fail
 refine(CP.out _ (HG.out.below HB.out)).mono ?_
 rintro e w2 ⟨rfl,hB⟩
 replace HB:=bt8 HB.out hB
 clear hB
 go_wp2_with fail
 refine(CR.out _).mono ?_
 rintro e w3 ⟨rfl,hB⟩
 replace HB:=bt8 HB.out hB
 clear hB
 go_wp2_with fail
 refine(AD.out _ (HG.out.below HB.out)).mono ?_
 rintro e w4 ⟨rfl,hB⟩
 replace HB:=bt8 HB.out hB
 clear hB
 go_wp2_with fail
 refine(SB.out _ (HG.out.below HB.out)).mono ?_
 rintro e w4 ⟨rfl,hB⟩
 replace HB:=bt8 HB.out hB
 clear hB
 go_wp2_with fail
 refine(MU.out _ (HG.out.below HB.out)).mono ?_
 rintro e w4 ⟨rfl,hB⟩
 replace HB:=bt8 HB.out hB
 clear hB
 go_wp2_with fail
 refine(DV.out _ (HG.out.below HB.out)).mono ?_
 rintro e w4 ⟨rfl,hB⟩
 replace HB:=bt8 HB.out hB
 clear hB
 go_wp2_with fail
 refine(CO.out _ (HG.out.below HB.out)).mono ?_
 rintro e w4 ⟨rfl,hB⟩
 replace HB:=bt8 HB.out hB
 clear hB
 go_wp2_with fail
 refine(CR.out _).mono ?_
 rintro e w5 ⟨rfl,hB⟩
 replace HB:=bt8 HB.out hB
 clear hB
 go_wp2_with fail
 refine(CR2.out _).mono ?_
 rintro e w6 ⟨rfl,hB⟩
 replace HB:=bt8 HB.out hB
 clear hB
 go_wp2_with fail
 refine(lfirst2_c _ _ _).mono ?_
 rintro e w7 ⟨rfl,hB⟩
 replace HB:=bt8 (HB.out.alloc HB.out.size _) hB
 clear hB
 rw[HF.out]
 go_wp2_with fail
 refine(NB.out _).mono ?_
 rintro e w8 ⟨rfl,rfl⟩
 go_wp2_with fail
 refine(NB.out _).mono ?_
 rintro e w8 ⟨rfl,rfl⟩
 go_wp2_with fail
 refine(NB.out _).mono ?_
 rintro e w8 ⟨rfl,rfl⟩
 go_wp2_with fail
 refine(NB.out _).mono ?_
 rintro e w8 ⟨rfl,rfl⟩
 go_wp2_with fail
 refine(IB.out _).mono ?_
 rintro e w8 ⟨rfl,rfl⟩
 go_wp2
 go_ret
 exact⟨by simp,HB.out⟩
theorem an_div0 (l1 l2:List UInt8) (w:World) (H:AnH l1 l2 w) (hok:err2 l1 l2=0) (hd:l2=[48]):
  Calls Tryz.prog 3 #[.string ⟨l1.toArray⟩,.string ⟨l2.toArray⟩] w fun e w'=>e = .returned (.bool true)∧Below w.heap.size w w':=by
 obtain⟨h1,h2,hG⟩:=id H
 have HG:=hid hG
 have CP:=hid (fun W hG=>CheckP_c l1 W (by omega) hG (okL _))
 have CR:=hid (fun W=>refCheck_c l1 W (by omega))
 have CR2:=hid (fun W=>refCheck_c l2 W (by omega))
 obtain⟨k1,k2⟩:=err2_zero hok
 obtain⟨t1,p1,p2⟩:=read60 l1 k1 h1
 obtain⟨t2,q1,q2⟩:=read60 l2 k2 h2
 have hp:=bigH60 p1 p2
 have hq:=bigH60 q1 q2
 have AD:=hid (fun W hG=>(AddP_c (H.tx (W:=W) hG)).mono fun e w' h=>comb_ok hok (sh_add p1 p2 q1 q2).1 h)
 have SB:=hid (fun W hG=>(SubP_c (H.tx (W:=W) hG)).mono fun e w' h=>comb_ok hok (sh_sub p1 p2 q1 q2).1 h)
 have MU:=hid (fun W hG=>(MulP_c (H.tx (W:=W) hG)).mono fun e w' h=>comb_ok hok (sh_mul p1 p2 q1 q2).1 h)
 have DV:Hid (∀W,Glob W→Calls Tryz.prog 21 #[.string ⟨l1.toArray⟩,.string ⟨l2.toArray⟩] W (strPost [] 6 W)):=hid (fun W hG=>by
  subst hd
  refine(DivP_zero (H.tx (W:=W) hG)).mono fun e w' h=>⟨?_,h.2⟩
  rw[h.1,k1];rfl)
 have CO:Hid (∀W,Glob W→Calls Tryz.prog 22 #[.string ⟨l1.toArray⟩,.string ⟨l2.toArray⟩] W (intPost (ratSign ((readRes l1).2-(readRes l2).2)) 0 W)):=hid (fun W hG=>(CompareX_c (H.tx (W:=W) hG)).mono fun e w' h=>⟨by rw[h.1,if_pos hok,hok],h.2⟩)
 have HF:Hid (first2 (readRes l1).1 (readRes l2).1=0):=hid hok
 have RA:=hid (fun W=>AddH_c _ _ W hp hq)
 have RS:=hid (fun W=>SubH_c _ _ W hp hq)
 have RM:=hid (fun W=>MulH_c _ _ W hp hq)
 have RC:=hid (fun W=>CmpH_c _ _ W hp hq)
 have RZ:=hid (fun W=>IsZeroH_c (readRes l2).2 W)
 have NA:=hid (fun W=>numberOk_c _ W (sh_add p1 p2 q1 q2).2.1 (sh_add p1 p2 q1 q2).2.2)
 have NS:=hid (fun W=>numberOk_c _ W (sh_sub p1 p2 q1 q2).2.1 (sh_sub p1 p2 q1 q2).2.2)
 have NM:=hid (fun W=>numberOk_c _ W (sh_mul p1 p2 q1 q2).2.1 (sh_mul p1 p2 q1 q2).2.2)
 rw[t1,t2] at RA RS RM RC
 rw[t2] at RZ
 have hz0:(readRes l2).2=0:=by rw[←rtext_is0,t2,hd]
 rw[decide_eq_true hz0] at RZ
 clear hz0 hd
 generalize rtext ((readRes l1).2+(readRes l2).2)=ta at *
 generalize rtext ((readRes l1).2-(readRes l2).2)=ts at *
 generalize rtext ((readRes l1).2*(readRes l2).2)=tm at *
 generalize ratSign ((readRes l1).2-(readRes l2).2)=sg_ at *
 generalize (readRes l1).1=e1 at *
 generalize (readRes l2).1=e2 at *
 generalize hss:(⟨l1.toArray⟩:ByteArray)=s at *
 generalize htt:(⟨l2.toArray⟩:ByteArray)=t at *
 have hz:s.size=l1.length:=by rw[←hss];simp[ByteArray.size]
 have hz2:t.size=l2.length:=by rw[←htt];simp[ByteArray.size]
 have hI:¬(1400:Int)<(s.size:Int):=by omega
 have hI6:¬(60:Int)<(s.size:Int):=by omega
 have hI7:¬(60:Int)<(t.size:Int):=by omega
 clear h1 h2 hG hz hz2 hss htt H
 clear t1 t2 p1 p2 q1 q2 hp hq k1 k2 hok
 go_enter Tryz.func3,Tryz.ntmps3
 go_wp2_with fail
 refine(awake_c _ HG.out).mono ?_
 rintro e w1 ⟨rfl,hB⟩
 have HB:=hid hB
 clear hB
 go_wp2_with fail
 refine(CP.out _ (HG.out.below HB.out)).mono ?_
 rintro e w2 ⟨rfl,hB⟩
 replace HB:=bt8 HB.out hB
 clear hB
 go_wp2_with fail
 refine(CR.out _).mono ?_
 rintro e w3 ⟨rfl,hB⟩
 replace HB:=bt8 HB.out hB
 clear hB
 go_wp2_with fail
 refine(AD.out _ (HG.out.below HB.out)).mono ?_
 rintro e w4 ⟨rfl,hB⟩
 replace HB:=bt8 HB.out hB
 clear hB
 go_wp2_with fail
 refine(SB.out _ (HG.out.below HB.out)).mono ?_
 rintro e w4 ⟨rfl,hB⟩
 replace HB:=bt8 HB.out hB
 clear hB
 go_wp2_with fail
 refine(MU.out _ (HG.out.below HB.out)).mono ?_
 rintro e w4 ⟨rfl,hB⟩
 replace HB:=bt8 HB.out hB
 clear hB
 go_wp2_with fail
 refine(DV.out _ (HG.out.below HB.out)).mono ?_
 rintro e w4 ⟨rfl,hB⟩
 replace HB:=bt8 HB.out hB
 clear hB
 go_wp2_with fail
 refine(CO.out _ (HG.out.below HB.out)).mono ?_
 rintro e w4 ⟨rfl,hB⟩
 replace HB:=bt8 HB.out hB
 clear hB
 go_wp2_with fail
 refine(CR.out _).mono ?_
 rintro e w5 ⟨rfl,hB⟩
 replace HB:=bt8 HB.out hB
 clear hB
 go_wp2_with fail
 refine(CR2.out _).mono ?_
 rintro e w6 ⟨rfl,hB⟩
 replace HB:=bt8 HB.out hB
 clear hB
 go_wp2_with fail
 refine(lfirst2_c _ _ _).mono ?_
 rintro e w7 ⟨rfl,hB⟩
 replace HB:=bt8 (HB.out.alloc HB.out.size _) hB
 clear hB
 rw[HF.out]
 go_wp2_with fail
 refine(RA.out _).mono ?_
 rintro e w8 ⟨rfl,hB⟩
 replace HB:=bt8 HB.out hB
 clear hB
 go_wp2_with fail
 refine(NA.out _).mono ?_
 rintro e w8 ⟨rfl,rfl⟩
 go_wp2_with fail
 refine(RS.out _).mono ?_
 rintro e w8 ⟨rfl,hB⟩
 replace HB:=bt8 HB.out hB
 clear hB
 go_wp2_with fail
 refine(NS.out _).mono ?_
 rintro e w8 ⟨rfl,rfl⟩
 go_wp2_with fail
 refine(RM.out _).mono ?_
 rintro e w8 ⟨rfl,hB⟩
 replace HB:=bt8 HB.out hB
 clear hB
 go_wp2_with fail
 refine(NM.out _).mono ?_
 rintro e w8 ⟨rfl,rfl⟩
 go_wp2_with fail
 refine(RC.out _).mono ?_
 rintro e w8 ⟨rfl,hB⟩
 replace HB:=bt8 HB.out hB
 clear hB
 go_wp2_with fail
 refine(integerOk_c _ _).mono ?_
 rintro e w8 ⟨rfl,rfl⟩
 go_wp2_with fail
 refine(RZ.out _).mono ?_
 rintro e w8 ⟨rfl,rfl⟩
 go_wp2_with fail
 refine(numberBad_c 6 [] _ (by decide)).mono ?_
 rintro e w8 ⟨rfl,rfl⟩
 go_wp2
 go_ret
 exact⟨by simp,HB.out⟩
theorem an_div (l1 l2:List UInt8) (w:World) (H:AnH l1 l2 w) (hok:err2 l1 l2=0) (hd:l2≠[48]):
  Calls Tryz.prog 3 #[.string ⟨l1.toArray⟩,.string ⟨l2.toArray⟩] w fun e w'=>e = .returned (.bool true)∧Below w.heap.size w w':=by
 obtain⟨h1,h2,hG⟩:=id H
 have HG:=hid hG
 have CP:=hid (fun W hG=>CheckP_c l1 W (by omega) hG (okL _))
 have CR:=hid (fun W=>refCheck_c l1 W (by omega))
 have CR2:=hid (fun W=>refCheck_c l2 W (by omega))
 obtain⟨k1,k2⟩:=err2_zero hok
 obtain⟨t1,p1,p2⟩:=read60 l1 k1 h1
 obtain⟨t2,q1,q2⟩:=read60 l2 k2 h2
 have hp:=bigH60 p1 p2
 have hq:=bigH60 q1 q2
 have AD:=hid (fun W hG=>(AddP_c (H.tx (W:=W) hG)).mono fun e w' h=>comb_ok hok (sh_add p1 p2 q1 q2).1 h)
 have SB:=hid (fun W hG=>(SubP_c (H.tx (W:=W) hG)).mono fun e w' h=>comb_ok hok (sh_sub p1 p2 q1 q2).1 h)
 have MU:=hid (fun W hG=>(MulP_c (H.tx (W:=W) hG)).mono fun e w' h=>comb_ok hok (sh_mul p1 p2 q1 q2).1 h)
 have hz0:=nonzero_text k2 hd
 have DV:=hid (fun W hG=>(DivP_c (H.tx (W:=W) hG) hd).mono fun e w' h=>comb_ok hok (sh_div hz0 p1 p2 q1 q2).1 h)
 have CO:Hid (∀W,Glob W→Calls Tryz.prog 22 #[.string ⟨l1.toArray⟩,.string ⟨l2.toArray⟩] W (intPost (ratSign ((readRes l1).2-(readRes l2).2)) 0 W)):=hid (fun W hG=>(CompareX_c (H.tx (W:=W) hG)).mono fun e w' h=>⟨by rw[h.1,if_pos hok,hok],h.2⟩)
 have HF:Hid (first2 (readRes l1).1 (readRes l2).1=0):=hid hok
 have RA:=hid (fun W=>AddH_c _ _ W hp hq)
 have RS:=hid (fun W=>SubH_c _ _ W hp hq)
 have RM:=hid (fun W=>MulH_c _ _ W hp hq)
 have RC:=hid (fun W=>CmpH_c _ _ W hp hq)
 have RZ:=hid (fun W=>IsZeroH_c (readRes l2).2 W)
 have NA:=hid (fun W=>numberOk_c _ W (sh_add p1 p2 q1 q2).2.1 (sh_add p1 p2 q1 q2).2.2)
 have NS:=hid (fun W=>numberOk_c _ W (sh_sub p1 p2 q1 q2).2.1 (sh_sub p1 p2 q1 q2).2.2)
 have NM:=hid (fun W=>numberOk_c _ W (sh_mul p1 p2 q1 q2).2.1 (sh_mul p1 p2 q1 q2).2.2)
 rw[t1,t2] at RA RS RM RC
 rw[t2] at RZ
 have RD:=hid (fun W=>DivH_c _ _ W hp hq hz0)
 rw[t1,t2] at RD
 have ND:=hid (fun W=>numberOk_c _ W (sh_div hz0 p1 p2 q1 q2).2.1 (sh_div hz0 p1 p2 q1 q2).2.2)
 rw[decide_eq_false hz0] at RZ
 clear hz0 hd
 generalize rtext ((readRes l1).2/(readRes l2).2)=td at *
 generalize rtext ((readRes l1).2+(readRes l2).2)=ta at *
 generalize rtext ((readRes l1).2-(readRes l2).2)=ts at *
 generalize rtext ((readRes l1).2*(readRes l2).2)=tm at *
 generalize ratSign ((readRes l1).2-(readRes l2).2)=sg_ at *
 generalize (readRes l1).1=e1 at *
 generalize (readRes l2).1=e2 at *
 generalize hss:(⟨l1.toArray⟩:ByteArray)=s at *
 generalize htt:(⟨l2.toArray⟩:ByteArray)=t at *
 have hz:s.size=l1.length:=by rw[←hss];simp[ByteArray.size]
 have hz2:t.size=l2.length:=by rw[←htt];simp[ByteArray.size]
 have hI:¬(1400:Int)<(s.size:Int):=by omega
 have hI6:¬(60:Int)<(s.size:Int):=by omega
 have hI7:¬(60:Int)<(t.size:Int):=by omega
 clear h1 h2 hG hz hz2 hss htt H
 clear t1 t2 p1 p2 q1 q2 hp hq k1 k2 hok
 go_enter Tryz.func3,Tryz.ntmps3
 go_wp2_with fail
 refine(awake_c _ HG.out).mono ?_
 rintro e w1 ⟨rfl,hB⟩
 have HB:=hid hB
 clear hB
 go_wp2_with fail
 refine(CP.out _ (HG.out.below HB.out)).mono ?_
 rintro e w2 ⟨rfl,hB⟩
 replace HB:=bt8 HB.out hB
 clear hB
 go_wp2_with fail
 refine(CR.out _).mono ?_
 rintro e w3 ⟨rfl,hB⟩
 replace HB:=bt8 HB.out hB
 clear hB
 go_wp2_with fail
 refine(AD.out _ (HG.out.below HB.out)).mono ?_
 rintro e w4 ⟨rfl,hB⟩
 replace HB:=bt8 HB.out hB
 clear hB
 go_wp2_with fail
 refine(SB.out _ (HG.out.below HB.out)).mono ?_
 rintro e w4 ⟨rfl,hB⟩
 replace HB:=bt8 HB.out hB
 clear hB
 go_wp2_with fail
 refine(MU.out _ (HG.out.below HB.out)).mono ?_
 rintro e w4 ⟨rfl,hB⟩
 replace HB:=bt8 HB.out hB
 clear hB
 go_wp2_with fail
 refine(DV.out _ (HG.out.below HB.out)).mono ?_
 rintro e w4 ⟨rfl,hB⟩
 replace HB:=bt8 HB.out hB
 clear hB
 go_wp2_with fail
 refine(CO.out _ (HG.out.below HB.out)).mono ?_
 rintro e w4 ⟨rfl,hB⟩
 replace HB:=bt8 HB.out hB
 clear hB
 go_wp2_with fail
 refine(CR.out _).mono ?_
 rintro e w5 ⟨rfl,hB⟩
 replace HB:=bt8 HB.out hB
 clear hB
 go_wp2_with fail
 refine(CR2.out _).mono ?_
 rintro e w6 ⟨rfl,hB⟩
 replace HB:=bt8 HB.out hB
 clear hB
 go_wp2_with fail
 refine(lfirst2_c _ _ _).mono ?_
 rintro e w7 ⟨rfl,hB⟩
 replace HB:=bt8 (HB.out.alloc HB.out.size _) hB
 clear hB
 rw[HF.out]
 go_wp2_with fail
 refine(RA.out _).mono ?_
 rintro e w8 ⟨rfl,hB⟩
 replace HB:=bt8 HB.out hB
 clear hB
 go_wp2_with fail
 refine(NA.out _).mono ?_
 rintro e w8 ⟨rfl,rfl⟩
 go_wp2_with fail
 refine(RS.out _).mono ?_
 rintro e w8 ⟨rfl,hB⟩
 replace HB:=bt8 HB.out hB
 clear hB
 go_wp2_with fail
 refine(NS.out _).mono ?_
 rintro e w8 ⟨rfl,rfl⟩
 go_wp2_with fail
 refine(RM.out _).mono ?_
 rintro e w8 ⟨rfl,hB⟩
 replace HB:=bt8 HB.out hB
 clear hB
 go_wp2_with fail
 refine(NM.out _).mono ?_
 rintro e w8 ⟨rfl,rfl⟩
 go_wp2_with fail
 refine(RC.out _).mono ?_
 rintro e w8 ⟨rfl,hB⟩
 replace HB:=bt8 HB.out hB
 clear hB
 go_wp2_with fail
 refine(integerOk_c _ _).mono ?_
 rintro e w8 ⟨rfl,rfl⟩
 go_wp2_with fail
 refine(RZ.out _).mono ?_
 rintro e w8 ⟨rfl,rfl⟩
 go_wp2_with fail
 refine(RD.out _).mono ?_
 rintro e w8 ⟨rfl,hB⟩
 replace HB:=bt8 HB.out hB
 clear hB
 go_wp2_with fail
 refine(ND.out _).mono ?_
 rintro e w8 ⟨rfl,rfl⟩
 go_wp2
 go_ret
 exact⟨by simp,HB.out⟩
theorem AlgebraNumbers_c (l1 l2:List UInt8) (w:World) (hs1:l1.length≤9223372036854775807) (hs2:l2.length≤9223372036854775807) (hG:Glob w):
  Calls Tryz.prog 3 #[.string ⟨l1.toArray⟩,.string ⟨l2.toArray⟩] w fun e w'=>e = .returned (.bool true)∧Below w.heap.size w w':=by
 by_cases h1:1400<l1.length
 ·exact an_long l1 l2 w h1 hs1 hG
 by_cases h2:l1.length≤60∧l2.length≤60
 ·have H:AnH l1 l2 w:=⟨h2.1,h2.2,hG⟩
  by_cases hok:err2 l1 l2=0
  ·by_cases hd:l2=[48]
   ·exact an_div0 l1 l2 w H hok hd
   ·exact an_div l1 l2 w H hok hd
  ·exact an_bad l1 l2 w H hok
 ·exact an_mid l1 l2 w (by omega) (by omega) hs2 hG
end Go.Proofs.YtneafcdfnhnpnaaGreatDoor
namespace Go.Proofs.YtneafcdfnhnpnaaGreatDoor
open Go.ChangeShapes Go.WideShapes Go.ChangeAt Go.RowKit Go.Lib
theorem own_knob:ownKnob Tryz.prog.godebug=none:=by kernel_rfl
theorem laid_out:laidOutB Tryz.prog=true:=by kernel_rfl
theorem g_pow10:Tryz.prog.globalNamed "internal/strconv.uint64pow10" =some 5:=by kernel_rfl
theorem t_pow10:(Tryz.prog.globals[5]?).map (·.type)=some 319:=by kernel_rfl
theorem cells_u64:Tryz.prog.cellsOf 148=1:=by kernel_rfl
theorem cells_pow10:Tryz.prog.cellsOf 319=20:=by kernel_rfl
def laid5:List (String×DataW Unit):=[("math/bits.deBruijn32tab",Rows.laid_math_bits_deBruijn32tab),("math/bits.deBruijn64tab",Rows.laid_math_bits_deBruijn64tab),("internal/strconv.uint64pow10",Rows.laid_internal_strconv_uint64pow10),("strconv.ErrRange",Rows.laid_strconv_ErrRange),("strconv.ErrSyntax",Rows.laid_strconv_ErrSyntax)]
theorem cell_in {W:World} {b o:Nat} {v:Value} (h:W.cell? ⟨b,o,none⟩=some v):b<W.heap.size:=by
 rcases Nat.lt_or_ge b W.heap.size with h1 | h1
 ·exact h1
 ·rw[World.cell?] at h
  have h2:W.heap[b]? =none:=Array.getElem?_eq_none h1
  simp[h2] at h
theorem glob_of {W:World} (h:laidMetH Tryz.prog laid5 W) (hsh:W.ShapedOpen Tryz.prog):Glob W:=by
 have h2:=laidMetH.filter (fun x=>x.1 == "internal/strconv.uint64pow10") h
 have e:laid5.filter (fun x=>x.1 == "internal/strconv.uint64pow10")=[("internal/strconv.uint64pow10",tabData .u64 pow10Tab)]:=by kernel_rfl
 rw[e,MakeChecks.laidMetH_plain _ _ _ (by kernel_rfl)] at h2
 have ht:TabIs Tryz.prog W "internal/strconv.uint64pow10" .u64 pow10Tab:=tabIs_of_head g_pow10 t_pow10 Tryz.underlying319 Tryz.underlying148 cells_u64 cells_pow10 h2
 obtain⟨m,hm⟩:=cell_of_shapedOpen_int (g:=2) (t:=3) (zero:= #[.int .i64 0]) hsh (of_decide_eq_true (by kernel_rfl)) (by kernel_rfl) rfl (by kernel_rfl) (by kernel_rfl) Tryz.underlying3
 refine⟨tabBelow_of_tabIs ht,m,?_,hm⟩
 exact cell_in hm
theorem door_met (os:Os) (args:Array Value):laidMetH Tryz.prog laid5 ((World.doorLaid Tryz.prog 400 os).forCall (fun _ _=>0) ⟨#[],args,[]⟩).memory:=
 laidMetH_of_parts3 (fuel:=8) (laidMet_of_run' 8 (by kernel_rfl) (by kernel_rfl)) (by kernel_rfl) (by kernel_rfl)
theorem returns_shaped {H:Type} {enc:TypeId×Value→H} {os:Os} {f:FuncId} {fn:Func} {s:ChangeSpec} (started:os.Started) (noInit:Tryz.checked.prog.inits.idxOf? f=none) (hfn:Tryz.checked.prog.funcs[f]? =some fn)
  (witness:∃(w:World) (tape:Tape) (i:Input),w.os=os∧(w.forCall tape i).Shaped Tryz.checked.prog∧i.vars=[]∧Input.okWide Tryz.checked.prog (w.forCall tape i) .any w.heap.size f i ∧
   ((s.pre enc Tryz.checked.prog fn [] false (w.forCall tape i).memory i.args∧laidMetH Tryz.prog laid5 (w.forCall tape i).memory)∧sizedMet enc Tryz.checked.prog fn (OpenSpec.ofChange s) false (w.forCall tape i).memory i.args)∧({} :Assume).holds Tryz.checked.prog (lone (Frame.enter Tryz.checked.prog f i.args .normal) [] (w.forCall tape i)))
  (contract:∀(W:World) (base:Nat) (args:Array Value) (ds gs:List (DataW H)) (before:List MemPlace),
   (∀(j:Nat) t v,fn.params[j]? =some t→args[j]? =some v→Value.okWide Tryz.prog W .any base t v) →
   DataW.Whole enc Tryz.prog fn.params.toList s.vars false W args.toList ds gs before →
   (DataW.weightsEach Tryz.prog (fn.params.toList++s.plain.varTypes Tryz.prog) (ds++gs)).all (· ≤reachBytes)=true →
   Glob W→Calls Tryz.prog f args W fun e W'=>∃v,e = .returned v∧s.post enc Tryz.prog fn false true false false W args v W'):
  ReturnsInHanded {} Tryz.checked os f .any (fun w args=>(s.pre enc Tryz.checked.prog fn [] false w args∧laidMetH Tryz.prog laid5 w)∧sizedMet enc Tryz.checked.prog fn (OpenSpec.ofChange s) false w args) (s.post enc Tryz.checked.prog fn false true false false):=by
 refine returnsInHanded_of_calls (C:=Tryz.checked) own_knob started noInit witness ?_
 intro w tape i _ hsh _ hok hpre _
 obtain⟨_,_,_,fn',hfn',_,_,_,_,hval⟩:=hok
 have e:fn'=fn:=Option.some.inj (hfn'.symm.trans hfn)
 subst e
 obtain⟨⟨⟨ds,gs,before,hw,hc⟩,hx⟩,hz⟩:=hpre
 have hw':=DataW.Whole.of_heap (w':=w.forCall tape i) (by rfl) hw
 have hL:laidMetH Tryz.prog laid5 (w.forCall tape i):=laidMetH.of_heap (by rfl) hx
 refine(contract (w.forCall tape i) w.heap.size i.args ds gs before hval hw' (hz.weights hw) (glob_of hL hsh)).mono fun e W' ⟨v,he,hp⟩=> ?_
 subst he
 exact ChangeSpec.post_blind hp
end Go.Proofs.YtneafcdfnhnpnaaGreatDoor
namespace Go.Proofs.YtneafcdfnhnpnaaGreatDoor
open Go.ChangeShapes Go.WideShapes Go.ChangeAt Go.RowKit Go.Lib
open Go.ChangeMaps (open_string)
theorem AlgebraNumbers_b (s t:ByteArray) (w:World) (hs:s.size≤9223372036854775807) (ht:t.size≤9223372036854775807) (hG:Glob w):
  Calls Tryz.prog 3 #[.string s,.string t] w fun e w'=>e = .returned (.bool true)∧Below w.heap.size w w':=by
 have h:=AlgebraNumbers_c s.data.toList t.data.toList w (by simpa using hs) (by simpa using ht) hG
 rw[←str_list s,←str_list t] at h;exact h
theorem nums_lifted (os:Os) (started:os.Started) (H:Type) (enc:TypeId×Value→H):
  ReturnsInHanded {} Tryz.checked os 3 .any (fun w args=>(Rows.algebraNumbersSpec.pre enc Tryz.checked.prog Tryz.f3 [] false w args∧laidMetH Tryz.prog laid5 w)∧sizedMet enc Tryz.checked.prog Tryz.f3 (OpenSpec.ofChange Rows.algebraNumbersSpec) false w args)
   (Rows.algebraNumbersSpec.post enc Tryz.checked.prog Tryz.f3 false true false false):=by
 refine returns_shaped started (by kernel_rfl) Tryz.func3
  (ChangeSpec.witness_shaped (enc:=enc) (C:=Tryz.checked) (os:=os) (X:=fun w _=>laidMetH Tryz.prog laid5 w) false (World.doorLaid Tryz.prog 400 os) #[.string ⟨#[]⟩,.string ⟨#[]⟩] 8 rfl (World.shaped_of_RefB (by kernel_rfl) (by kernel_rfl)) (by kernel_rfl) (by kernel_rfl) (by kernel_rfl) (door_met os _)) ?_
 intro W base args ds gs before hval0 hW hsz hG
 have hval:∀(j:Nat) t v,Tryz.f3.params[j]? =some t→args[j]? =some v→Value.okWide Tryz.prog W .any base t v:=hval0
 have hW':=hW
 obtain⟨p,q,hA0,hV,rfl,hfz,hnd⟩:=hW
 have hA:DataW.TrodAll enc Tryz.prog W 0 (fun _=>true) true Tryz.f3.params.toList args.toList ds p:=hA0
 rw[Tryz.params3] at hA hval hsz
 obtain⟨v0,v1,d0,d1,p0,p1,rfl,rfl,rfl,h0,h1⟩:=trodAll_two hA
 obtain⟨rfl,rfl⟩:=trodVars_none hV
 have h0k:=h0
 have h1k:=h1
 obtain⟨s,rfl,rfl,rfl,ws⟩:=open_string Tryz.underlying22 (hval 0 22 v0 rfl rfl) h0
 obtain⟨t,rfl,rfl,rfl,wt⟩:=open_string Tryz.underlying22 (hval 1 22 v1 rfl rfl) h1
 clear hA0 hval0
 simp only[List.append_nil] at hW' hsz
 refine(AlgebraNumbers_b s t W (by unfold maxLen at ws;exact ws) (by unfold maxLen at wt;exact wt) hG).mono fun e W' ⟨he,bel⟩=> ?_
 subst he
 refine⟨_,rfl,_,_,_,[],[]++[],[],hW',?_,?_,?_,bel.frame _,fun h=>by cases h⟩
 ·exact trodAll_mk1 (shut_bool Tryz.underlying4 true)
 ·exact trodAll_mk2 (Below.trod laid_out (by kernel_rfl) (of_decide_eq_true (by kernel_rfl)) h0k bel (fun x hx=>by cases hx)) (Below.trod laid_out (by kernel_rfl) (of_decide_eq_true (by kernel_rfl)) h1k bel (fun x hx=>by cases hx))
 ·rfl
end Go.Proofs.YtneafcdfnhnpnaaGreatDoor
