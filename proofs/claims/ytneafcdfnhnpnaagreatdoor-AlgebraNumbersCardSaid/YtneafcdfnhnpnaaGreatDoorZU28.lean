/- Contracts: the program's sums, differences, products and quotients of texts. -/
import Derived.Test.YtneafcdfnhnpnaaGreatDoorZU27
import Derived.Test.YtneafcdfnhnpnaaGreatDoorZU11
import Derived.Test.YtneafcdfnhnpnaaGreatDoorZU06
import Derived.Test.YtneafcdfnhnpnaaGreatDoorZU13
import Derived.Test.YtneafcdfnhnpnaaGreatDoorZU15
import Derived.Test.YtneafcdfnhnpnaaGreatDoorZU10
set_option maxRecDepth 100000
set_option maxHeartbeats 4000000
namespace Go.Proofs.YtneafcdfnhnpnaaGreatDoor
open Go.RowKit Go.Lib
theorem CheckP_c (l:List UInt8) (w:World) (hl:l.length<4294967281) (hG:Glob w) (hD:OkLen l.length):
  Calls Tryz.prog 16 #[.string ⟨l.toArray⟩] w (ckPost (readRes l).1 w):=by
 have RD:=hid (read_c l w hl hG hD)
 generalize (⟨l.toArray⟩:ByteArray)=sb at *
 clear hl hG hD
 go_enter Tryz.func16,Tryz.ntmps16
 go_wp2_with fail
 refine RD.out.mono ?_
 rintro e w1 hp
 obtain⟨s,A,n,c,B,m,d,k,rfl,hv,hB⟩:=read_parts_of hp
 have HK:=hid hv.1
 have HB:=hid (hB.alloc hB.size (.cells #[.bool s,.slice A n c,.slice B m d] 122))
 clear hp hv hB RD
 go_wp2
 go_ret
 exact⟨by rw[←HK.out];rfl,HB.out⟩
def combEnd (k:Int) (r:Rat):Ending:=if k=0 then writeEnd r else .returned (.tuple #[.string ⟨#[]⟩,.int .i64 k])
def combPost (k:Int) (r:Rat) (w:World) (e:Ending) (w':World):Prop:=e=combEnd k r∧Below w.heap.size w w'
theorem combEnd_form (k:Int) (r:Rat):∃s c,combEnd k r = .returned (.tuple #[.string s,.int .i64 c]):=by
 unfold combEnd
 split
 ·exact writeEnd_form r
 ·exact⟨_,_,rfl⟩
abbrev err2 (l1 l2:List UInt8):Int:=first2 (readRes l1).1 (readRes l2).1
theorem err2_zero {a b:Int} (h:first2 a b=0):a=0∧b=0:=by
 unfold first2 at h
 by_cases ha:a=0
 ·rw[if_pos ha] at h;exact⟨ha,h⟩
 ·rw[if_neg ha] at h;exact absurd h ha
theorem combine_plus (l1 l2:List UInt8) (r:Rat) (w:World) (h1:l1.length<4294967281) (h2:l2.length<4294967281) (hG:Glob w) (o1:OkLen l1.length) (o2:OkLen l2.length)
  (OP:err2 l1 l2=0→(∀W v u,Rt W v (readRes l1).2→Rt W u (readRes l2).2→Calls Tryz.prog 108 #[v,u] W (ratPost r W))∧Fits r.num.natAbs∧Fits r.den):
  Calls Tryz.prog 107 #[.string ⟨l1.toArray⟩,.string ⟨l2.toArray⟩,.func (.func 108) #[] #[]] w (combPost (err2 l1 l2) r w):=by
 have TW:=hid (readTwo_c l1 l2 w h1 h2 hG o1 o2)
 have HOP:=hid OP
 have HG:=hid hG
 clear h1 h2 o1 o2 hG OP
 go_enter Tryz.func107,Tryz.ntmps107
 go_wp2_with fail
 refine TW.out.mono ?_
 clear TW
 rintro e w1 ⟨s,A,n,c,B,m,d,k,s',A',n',c',B',m',d',k',rfl,hX,hY,hB⟩
 have ha:Below w1.heap.size w1 ((w1.alloc (.cells #[.bool s,.slice A n c,.slice B m d] 122)).alloc (.cells #[.bool s',.slice A' n' c',.slice B' m' d'] 122)):=((Below.refl _ _).alloc (Nat.le_refl _) _).alloc (by simp) _
 have HB:=hid (hB.trans (ha.mono hB.size))
 by_cases h0:first2 k k'=0
 ·obtain⟨hk,hk'⟩:=err2_zero h0
  have HE1:Hid (err2 l1 l2=0):=hid (by show first2 _ _=0;rw[←hX.1,←hY.1];exact h0)
  have HO:=hid ((HOP.out HE1.out).1 _ _ _ ((hX.2 hk).below ha) ((hY.2 hk').below ha))
  have HF:=hid (HOP.out HE1.out).2
  have hb:(first2 k k' != 0)=false:=by rw[h0];rfl
  clear hX hY hB ha h0 hk hk' HOP
  generalize first2 k k'=ec at *
  obtain⟨S,cc,hS⟩:=writeEnd_form r
  have HS:=hid hS
  clear hS
  go_wp2_with fail
  refine HO.out.mono ?_
  rintro e w2 ⟨v,rfl,hv,hB2⟩
  have WR:=hid (write_c v r w2 hv HF.out.1 HF.out.2 (HG.out.below (HB.out.trans (hB2.mono HB.out.size))))
  have HB2:=hid (HB.out.trans (hB2.mono HB.out.size))
  clear hv hB2 HO HF
  go_wp2_with fail
  refine WR.out.mono ?_
  rintro e w3 ⟨he,hB3⟩
  rw[HS.out] at he
  subst he
  have HBF:=hid (HB2.out.trans (hB3.mono HB2.out.size))
  clear hB3
  go_wp2
  go_ret2
  exact⟨by unfold combEnd;rw[if_pos HE1.out,HS.out];rfl,HBF.out⟩
 ·have HE1:Hid (err2 l1 l2=first2 k k'):=hid (by show first2 _ _=_;rw[←hX.1,←hY.1])
  have HN:=hid h0
  have hb:(first2 k k' != 0)=true:=by simpa using h0
  clear hX hY hB ha h0 HOP
  generalize first2 k k'=ec at *
  go_wp2
  go_ret2
  exact⟨by rw[HE1.out];unfold combEnd;rw[if_neg HN.out];rfl,HB.out⟩
theorem combine_minus (l1 l2:List UInt8) (r:Rat) (w:World) (h1:l1.length<4294967281) (h2:l2.length<4294967281) (hG:Glob w) (o1:OkLen l1.length) (o2:OkLen l2.length)
  (OP:err2 l1 l2=0→(∀W v u,Rt W v (readRes l1).2→Rt W u (readRes l2).2→Calls Tryz.prog 109 #[v,u] W (ratPost r W))∧Fits r.num.natAbs∧Fits r.den):
  Calls Tryz.prog 107 #[.string ⟨l1.toArray⟩,.string ⟨l2.toArray⟩,.func (.func 109) #[] #[]] w (combPost (err2 l1 l2) r w):=by
 have TW:=hid (readTwo_c l1 l2 w h1 h2 hG o1 o2)
 have HOP:=hid OP
 have HG:=hid hG
 clear h1 h2 o1 o2 hG OP
 go_enter Tryz.func107,Tryz.ntmps107
 go_wp2_with fail
 refine TW.out.mono ?_
 clear TW
 rintro e w1 ⟨s,A,n,c,B,m,d,k,s',A',n',c',B',m',d',k',rfl,hX,hY,hB⟩
 have ha:Below w1.heap.size w1 ((w1.alloc (.cells #[.bool s,.slice A n c,.slice B m d] 122)).alloc (.cells #[.bool s',.slice A' n' c',.slice B' m' d'] 122)):=((Below.refl _ _).alloc (Nat.le_refl _) _).alloc (by simp) _
 have HB:=hid (hB.trans (ha.mono hB.size))
 by_cases h0:first2 k k'=0
 ·obtain⟨hk,hk'⟩:=err2_zero h0
  have HE1:Hid (err2 l1 l2=0):=hid (by show first2 _ _=0;rw[←hX.1,←hY.1];exact h0)
  have HO:=hid ((HOP.out HE1.out).1 _ _ _ ((hX.2 hk).below ha) ((hY.2 hk').below ha))
  have HF:=hid (HOP.out HE1.out).2
  have hb:(first2 k k' != 0)=false:=by rw[h0];rfl
  clear hX hY hB ha h0 hk hk' HOP
  generalize first2 k k'=ec at *
  obtain⟨S,cc,hS⟩:=writeEnd_form r
  have HS:=hid hS
  clear hS
  go_wp2_with fail
  refine HO.out.mono ?_
  rintro e w2 ⟨v,rfl,hv,hB2⟩
  have WR:=hid (write_c v r w2 hv HF.out.1 HF.out.2 (HG.out.below (HB.out.trans (hB2.mono HB.out.size))))
  have HB2:=hid (HB.out.trans (hB2.mono HB.out.size))
  clear hv hB2 HO HF
  go_wp2_with fail
  refine WR.out.mono ?_
  rintro e w3 ⟨he,hB3⟩
  rw[HS.out] at he
  subst he
  have HBF:=hid (HB2.out.trans (hB3.mono HB2.out.size))
  clear hB3
  go_wp2
  go_ret2
  exact⟨by unfold combEnd;rw[if_pos HE1.out,HS.out];rfl,HBF.out⟩
 ·have HE1:Hid (err2 l1 l2=first2 k k'):=hid (by show first2 _ _=_;rw[←hX.1,←hY.1])
  have HN:=hid h0
  have hb:(first2 k k' != 0)=true:=by simpa using h0
  clear hX hY hB ha h0 HOP
  generalize first2 k k'=ec at *
  go_wp2
  go_ret2
  exact⟨by rw[HE1.out];unfold combEnd;rw[if_neg HN.out];rfl,HB.out⟩
theorem combine_times (l1 l2:List UInt8) (r:Rat) (w:World) (h1:l1.length<4294967281) (h2:l2.length<4294967281) (hG:Glob w) (o1:OkLen l1.length) (o2:OkLen l2.length)
  (OP:err2 l1 l2=0→(∀W v u,Rt W v (readRes l1).2→Rt W u (readRes l2).2→Calls Tryz.prog 110 #[v,u] W (ratPost r W))∧Fits r.num.natAbs∧Fits r.den):
  Calls Tryz.prog 107 #[.string ⟨l1.toArray⟩,.string ⟨l2.toArray⟩,.func (.func 110) #[] #[]] w (combPost (err2 l1 l2) r w):=by
 have TW:=hid (readTwo_c l1 l2 w h1 h2 hG o1 o2)
 have HOP:=hid OP
 have HG:=hid hG
 clear h1 h2 o1 o2 hG OP
 go_enter Tryz.func107,Tryz.ntmps107
 go_wp2_with fail
 refine TW.out.mono ?_
 clear TW
 rintro e w1 ⟨s,A,n,c,B,m,d,k,s',A',n',c',B',m',d',k',rfl,hX,hY,hB⟩
 have ha:Below w1.heap.size w1 ((w1.alloc (.cells #[.bool s,.slice A n c,.slice B m d] 122)).alloc (.cells #[.bool s',.slice A' n' c',.slice B' m' d'] 122)):=((Below.refl _ _).alloc (Nat.le_refl _) _).alloc (by simp) _
 have HB:=hid (hB.trans (ha.mono hB.size))
 by_cases h0:first2 k k'=0
 ·obtain⟨hk,hk'⟩:=err2_zero h0
  have HE1:Hid (err2 l1 l2=0):=hid (by show first2 _ _=0;rw[←hX.1,←hY.1];exact h0)
  have HO:=hid ((HOP.out HE1.out).1 _ _ _ ((hX.2 hk).below ha) ((hY.2 hk').below ha))
  have HF:=hid (HOP.out HE1.out).2
  have hb:(first2 k k' != 0)=false:=by rw[h0];rfl
  clear hX hY hB ha h0 hk hk' HOP
  generalize first2 k k'=ec at *
  obtain⟨S,cc,hS⟩:=writeEnd_form r
  have HS:=hid hS
  clear hS
  go_wp2_with fail
  refine HO.out.mono ?_
  rintro e w2 ⟨v,rfl,hv,hB2⟩
  have WR:=hid (write_c v r w2 hv HF.out.1 HF.out.2 (HG.out.below (HB.out.trans (hB2.mono HB.out.size))))
  have HB2:=hid (HB.out.trans (hB2.mono HB.out.size))
  clear hv hB2 HO HF
  go_wp2_with fail
  refine WR.out.mono ?_
  rintro e w3 ⟨he,hB3⟩
  rw[HS.out] at he
  subst he
  have HBF:=hid (HB2.out.trans (hB3.mono HB2.out.size))
  clear hB3
  go_wp2
  go_ret2
  exact⟨by unfold combEnd;rw[if_pos HE1.out,HS.out];rfl,HBF.out⟩
 ·have HE1:Hid (err2 l1 l2=first2 k k'):=hid (by show first2 _ _=_;rw[←hX.1,←hY.1])
  have HN:=hid h0
  have hb:(first2 k k' != 0)=true:=by simpa using h0
  clear hX hY hB ha h0 HOP
  generalize first2 k k'=ec at *
  go_wp2
  go_ret2
  exact⟨by rw[HE1.out];unfold combEnd;rw[if_neg HN.out];rfl,HB.out⟩
theorem combine_over (l1 l2:List UInt8) (r:Rat) (w:World) (h1:l1.length<4294967281) (h2:l2.length<4294967281) (hG:Glob w) (o1:OkLen l1.length) (o2:OkLen l2.length)
  (OP:err2 l1 l2=0→(∀W v u,Rt W v (readRes l1).2→Rt W u (readRes l2).2→Calls Tryz.prog 112 #[v,u] W (ratPost r W))∧Fits r.num.natAbs∧Fits r.den):
  Calls Tryz.prog 107 #[.string ⟨l1.toArray⟩,.string ⟨l2.toArray⟩,.func (.func 112) #[] #[]] w (combPost (err2 l1 l2) r w):=by
 have TW:=hid (readTwo_c l1 l2 w h1 h2 hG o1 o2)
 have HOP:=hid OP
 have HG:=hid hG
 clear h1 h2 o1 o2 hG OP
 go_enter Tryz.func107,Tryz.ntmps107
 go_wp2_with fail
 refine TW.out.mono ?_
 clear TW
 rintro e w1 ⟨s,A,n,c,B,m,d,k,s',A',n',c',B',m',d',k',rfl,hX,hY,hB⟩
 have ha:Below w1.heap.size w1 ((w1.alloc (.cells #[.bool s,.slice A n c,.slice B m d] 122)).alloc (.cells #[.bool s',.slice A' n' c',.slice B' m' d'] 122)):=((Below.refl _ _).alloc (Nat.le_refl _) _).alloc (by simp) _
 have HB:=hid (hB.trans (ha.mono hB.size))
 by_cases h0:first2 k k'=0
 ·obtain⟨hk,hk'⟩:=err2_zero h0
  have HE1:Hid (err2 l1 l2=0):=hid (by show first2 _ _=0;rw[←hX.1,←hY.1];exact h0)
  have HO:=hid ((HOP.out HE1.out).1 _ _ _ ((hX.2 hk).below ha) ((hY.2 hk').below ha))
  have HF:=hid (HOP.out HE1.out).2
  have hb:(first2 k k' != 0)=false:=by rw[h0];rfl
  clear hX hY hB ha h0 hk hk' HOP
  generalize first2 k k'=ec at *
  obtain⟨S,cc,hS⟩:=writeEnd_form r
  have HS:=hid hS
  clear hS
  go_wp2_with fail
  refine HO.out.mono ?_
  rintro e w2 ⟨v,rfl,hv,hB2⟩
  have WR:=hid (write_c v r w2 hv HF.out.1 HF.out.2 (HG.out.below (HB.out.trans (hB2.mono HB.out.size))))
  have HB2:=hid (HB.out.trans (hB2.mono HB.out.size))
  clear hv hB2 HO HF
  go_wp2_with fail
  refine WR.out.mono ?_
  rintro e w3 ⟨he,hB3⟩
  rw[HS.out] at he
  subst he
  have HBF:=hid (HB2.out.trans (hB3.mono HB2.out.size))
  clear hB3
  go_wp2
  go_ret2
  exact⟨by unfold combEnd;rw[if_pos HE1.out,HS.out];rfl,HBF.out⟩
 ·have HE1:Hid (err2 l1 l2=first2 k k'):=hid (by show first2 _ _=_;rw[←hX.1,←hY.1])
  have HN:=hid h0
  have hb:(first2 k k' != 0)=true:=by simpa using h0
  clear hX hY hB ha h0 HOP
  generalize first2 k k'=ec at *
  go_wp2
  go_ret2
  exact⟨by rw[HE1.out];unfold combEnd;rw[if_neg HN.out];rfl,HB.out⟩
structure Tx (l1 l2:List UInt8) (w:World):Prop where
 h1:l1.length<4294967281
 h2:l2.length<4294967281
 hG:Glob w
 o1:OkLen l1.length
 o2:OkLen l2.length
@[irreducible] def K1300:Nat:=1300
theorem K1300_eq:K1300=1300:=by unfold K1300;rfl
theorem fits600 {x:Nat} (h:x<10^K1300):Fits x:=Fits.of_pow h (.inr deeps) (by have:=K600_eq;have:=K1300_eq;omega)
theorem pow600:10^K600*10^K600+10^K600*10^K600≤10^K1300:=by
 have h1:10^K600*10^K600=10^(K600+K600):=(Nat.pow_add 10 K600 K600).symm
 have h2:10^(K600+K600)*10≤10^K1300:=by rw[←Nat.pow_succ];exact Nat.pow_le_pow_right (by decide) (by have:=K600_eq;have:=K1300_eq;omega)
 rw[h1]
 generalize 10^(K600+K600)=P at *
 generalize 10^K1300=Q at *
 omega
theorem fit600 {p q:Rat} (p1:p.num.natAbs<10^K600) (p2:p.den<10^K600) (q1:q.num.natAbs<10^K600) (q2:q.den<10^K600):FitP p q:=by
 have big:∀ {x:Nat},x<10^K600→Fits x:=fun h=>Fits.of_pow h (.inr deeps) (by have:=K600_eq;have:=K1300_eq;omega)
 refine⟨⟨big p1,big p2⟩,⟨big q1,big q2⟩,fits600 ?_⟩
 have h1:=Nat.mul_lt_mul'' p1 q2
 have h2:=Nat.mul_lt_mul'' q1 p2
 have h3:=pow600
 generalize 10^K600*10^K600=P at *
 generalize 10^K1300=Q at *
 omega
theorem mul600 {p q:Rat} (p1:p.num.natAbs<10^K600) (p2:p.den<10^K600) (q1:q.num.natAbs<10^K600) (q2:q.den<10^K600):Fits (p*q).num.natAbs∧Fits (p*q).den:=by
 obtain⟨h1,h2⟩:=mul_le p q
 have h3:=Nat.mul_lt_mul'' p1 q1
 have h4:=Nat.mul_lt_mul'' p2 q2
 have h5:=pow600
 constructor
 ·exact fits600 (by generalize 10^K600*10^K600=P at *;generalize 10^K1300=Q at *;omega)
 ·exact fits600 (by generalize 10^K600*10^K600=P at *;generalize 10^K1300=Q at *;omega)
theorem add600 {p q:Rat} (p1:p.num.natAbs<10^K600) (p2:p.den<10^K600) (q1:q.num.natAbs<10^K600) (q2:q.den<10^K600):Fits (p+q).num.natAbs∧Fits (p+q).den:=by
 obtain⟨h1,h2⟩:=add_le p q
 have h3:=Nat.mul_lt_mul'' p1 q2
 have h3':=Nat.mul_lt_mul'' q1 p2
 have h4:=Nat.mul_lt_mul'' p2 q2
 have h5:=pow600
 constructor
 ·exact fits600 (by generalize 10^K600*10^K600=P at *;generalize 10^K1300=Q at *;omega)
 ·exact fits600 (by generalize 10^K600*10^K600=P at *;generalize 10^K1300=Q at *;omega)
theorem inv_parts (q:Rat) (h0:q≠0):q⁻¹.num.natAbs≤q.den∧q⁻¹.den≤q.num.natAbs:=by
 have hn:q.num≠0:=fun h=>h0 (Rat.num_eq_zero.1 h)
 rw[inv_frac]
 obtain⟨h1,h2⟩:=div_parts (q.den:Int) q.num hn
 rw[Int.natAbs_natCast] at h1
 exact⟨h1,h2⟩
variable {l1 l2:List UInt8} {w:World}
--OPS
theorem sub600 {p q:Rat} (p1:p.num.natAbs<10^K600) (p2:p.den<10^K600) (q1:q.num.natAbs<10^K600) (q2:q.den<10^K600):Fits (p-q).num.natAbs∧Fits (p-q).den:=by
 rw[Rat.sub_eq_add_neg]
 exact add600 p1 p2 (by rw[Rat.neg_num,Int.natAbs_neg];exact q1) (by rw[Rat.neg_den];exact q2)
theorem div600 {p q:Rat} (h0:q≠0) (p1:p.num.natAbs<10^K600) (p2:p.den<10^K600) (q1:q.num.natAbs<10^K600) (q2:q.den<10^K600):Fits (p/q).num.natAbs∧Fits (p/q).den:=by
 obtain⟨h1,h2⟩:=inv_parts q h0
 rw[Rat.div_def]
 exact mul600 p1 p2 (Nat.lt_of_le_of_lt h1 q2) (Nat.lt_of_le_of_lt h2 q1)
theorem big600 {x:Nat} (h:x<10^K600):Fits x:=Fits.of_pow h (.inr deeps) (by have:=K600_eq;omega)
theorem nonzero_text {l:List UInt8} (h:(readRes l).1=0) (hl:l≠[48]):(readRes l).2≠0:=by
 intro e
 have h1:=(readRes_text l h).1
 rw[e,rtext_zero] at h1
 exact hl h1.symm
theorem AddP_c (H:Tx l1 l2 w):Calls Tryz.prog 18 #[.string ⟨l1.toArray⟩,.string ⟨l2.toArray⟩] w (combPost (err2 l1 l2) ((readRes l1).2+(readRes l2).2) w):=by
 have CB:=hid (combine_plus l1 l2 ((readRes l1).2+(readRes l2).2) w H.h1 H.h2 H.hG H.o1 H.o2 (fun h0=>by
  obtain⟨k1,k2⟩:=err2_zero h0
  obtain⟨_,a1,a2⟩:=readRes_text l1 k1
  obtain⟨_,b1,b2⟩:=readRes_text l2 k2
  exact⟨fun W v u hv hu=>ratPlus_c v u _ _ W hv hu (fit600 a1 a2 b1 b2),add600 a1 a2 b1 b2⟩))
 obtain⟨S,c,hS⟩:=combEnd_form (err2 l1 l2) ((readRes l1).2+(readRes l2).2)
 have HS:=hid hS
 generalize (⟨l1.toArray⟩:ByteArray)=s at *
 generalize (⟨l2.toArray⟩:ByteArray)=t at *
 clear hS
 go_enter Tryz.func18,Tryz.ntmps18
 go_wp2_with fail
 refine CB.out.mono ?_
 rintro e w1 ⟨he,hB⟩
 rw[HS.out] at he
 subst he
 have HB:=hid hB
 clear hB CB
 go_wp2
 go_ret2
 exact⟨by rw[HS.out];rfl,HB.out⟩
theorem SubP_c (H:Tx l1 l2 w):Calls Tryz.prog 19 #[.string ⟨l1.toArray⟩,.string ⟨l2.toArray⟩] w (combPost (err2 l1 l2) ((readRes l1).2-(readRes l2).2) w):=by
 have CB:=hid (combine_minus l1 l2 ((readRes l1).2-(readRes l2).2) w H.h1 H.h2 H.hG H.o1 H.o2 (fun h0=>by
  obtain⟨k1,k2⟩:=err2_zero h0
  obtain⟨_,a1,a2⟩:=readRes_text l1 k1
  obtain⟨_,b1,b2⟩:=readRes_text l2 k2
  exact⟨fun W v u hv hu=>ratMinus_c v u _ _ W hv hu (fit600 a1 a2 b1 b2),sub600 a1 a2 b1 b2⟩))
 obtain⟨S,c,hS⟩:=combEnd_form (err2 l1 l2) ((readRes l1).2-(readRes l2).2)
 have HS:=hid hS
 generalize (⟨l1.toArray⟩:ByteArray)=s at *
 generalize (⟨l2.toArray⟩:ByteArray)=t at *
 clear hS
 go_enter Tryz.func19,Tryz.ntmps19
 go_wp2_with fail
 refine CB.out.mono ?_
 rintro e w1 ⟨he,hB⟩
 rw[HS.out] at he
 subst he
 have HB:=hid hB
 clear hB CB
 go_wp2
 go_ret2
 exact⟨by rw[HS.out];rfl,HB.out⟩
theorem MulP_c (H:Tx l1 l2 w):Calls Tryz.prog 20 #[.string ⟨l1.toArray⟩,.string ⟨l2.toArray⟩] w (combPost (err2 l1 l2) ((readRes l1).2*(readRes l2).2) w):=by
 have CB:=hid (combine_times l1 l2 ((readRes l1).2*(readRes l2).2) w H.h1 H.h2 H.hG H.o1 H.o2 (fun h0=>by
  obtain⟨k1,k2⟩:=err2_zero h0
  obtain⟨_,a1,a2⟩:=readRes_text l1 k1
  obtain⟨_,b1,b2⟩:=readRes_text l2 k2
  exact⟨fun W v u hv hu=>ratTimes_r v u _ _ W hv hu (big600 a1) (big600 a2) (big600 b1) (big600 b2),mul600 a1 a2 b1 b2⟩))
 obtain⟨S,c,hS⟩:=combEnd_form (err2 l1 l2) ((readRes l1).2*(readRes l2).2)
 have HS:=hid hS
 generalize (⟨l1.toArray⟩:ByteArray)=s at *
 generalize (⟨l2.toArray⟩:ByteArray)=t at *
 clear hS
 go_enter Tryz.func20,Tryz.ntmps20
 go_wp2_with fail
 refine CB.out.mono ?_
 rintro e w1 ⟨he,hB⟩
 rw[HS.out] at he
 subst he
 have HB:=hid hB
 clear hB CB
 go_wp2
 go_ret2
 exact⟨by rw[HS.out];rfl,HB.out⟩
theorem DivP_c (H:Tx l1 l2 w) (hne:l2≠[48]):Calls Tryz.prog 21 #[.string ⟨l1.toArray⟩,.string ⟨l2.toArray⟩] w (combPost (err2 l1 l2) ((readRes l1).2/(readRes l2).2) w):=by
 have CB:=hid (combine_over l1 l2 ((readRes l1).2/(readRes l2).2) w H.h1 H.h2 H.hG H.o1 H.o2 (fun h0=>by
  obtain⟨k1,k2⟩:=err2_zero h0
  obtain⟨_,a1,a2⟩:=readRes_text l1 k1
  obtain⟨_,b1,b2⟩:=readRes_text l2 k2
  exact⟨fun W v u hv hu=>over_c v u _ _ W hv hu (nonzero_text k2 hne) (big600 a1) (big600 a2) (big600 b1) (big600 b2),div600 (nonzero_text k2 hne) a1 a2 b1 b2⟩))
 obtain⟨S,c,hS⟩:=combEnd_form (err2 l1 l2) ((readRes l1).2/(readRes l2).2)
 have HS:=hid hS
 have hz:((⟨l2.toArray⟩:ByteArray).toList==[48])=false:=by rw[ByteArray.toList_eq];simpa using hne
 generalize (⟨l1.toArray⟩:ByteArray)=s at *
 generalize (⟨l2.toArray⟩:ByteArray)=t at *
 clear hS
 go_enter Tryz.func21,Tryz.ntmps21
 go_wp2_with fail
 refine CB.out.mono ?_
 rintro e w1 ⟨he,hB⟩
 rw[HS.out] at he
 subst he
 have HB:=hid hB
 clear hB CB
 go_wp2
 go_ret2
 exact⟨by rw[HS.out];rfl,HB.out⟩
theorem DivP_zero (H:Tx l1 [48] w):Calls Tryz.prog 21 #[.string ⟨l1.toArray⟩,.string ⟨[48].toArray⟩] w (fun e w'=>e = .returned (.tuple #[.string ⟨#[]⟩,.int .i64 (first2 (readRes l1).1 6)])∧Below w.heap.size w w'):=by
 have CK:=hid (CheckP_c l1 w H.h1 H.hG H.o1)
 have hz:((⟨[48].toArray⟩:ByteArray).toList==[48])=true:=by rw[ByteArray.toList_eq];rfl
 generalize (⟨l1.toArray⟩:ByteArray)=s at *
 generalize (⟨[48].toArray⟩:ByteArray)=t at *
 obtain⟨k,hk⟩:∃k,(readRes l1).1=k:=⟨_,rfl⟩
 rw[hk] at CK ⊢
 have HFE:Hid (firstErr [k,6]=first2 k 6):=hid (by
  unfold first2
  by_cases h:k=0
  ·rw[if_pos h,h];rfl
  ·rw[if_neg h];unfold firstErr;rw[if_neg h])
 clear hk H
 go_enter Tryz.func21,Tryz.ntmps21
 go_wp2_with fail
 refine CK.out.mono ?_
 rintro e w1 ⟨rfl,hB⟩
 have HB:=hid hB
 clear hB CK
 go_wp2_with fail
 refine(first2_c _ _ _ _).mono ?_
 rintro e w2 ⟨rfl,rfl⟩
 rw[HFE.out]
 go_wp2
 go_ret2
 exact⟨rfl,HB.out.alloc HB.out.size _⟩
end Go.Proofs.YtneafcdfnhnpnaaGreatDoor
namespace Go.Proofs.YtneafcdfnhnpnaaGreatDoor
open Go.RowKit Go.Lib
theorem info_txt:(Tryz.prog.info? 22).map (fun i=>(i.zero,i.size,i.bytes))=some (some (.string ⟨#[]⟩),1,16):=by kernel_rfl
theorem scells_replicate (n:Nat):scells (List.replicate n [])=List.replicate n (.string ⟨#[]⟩):=by simp[scells,sv]
theorem make_txt (w:World) (n:Nat) (hn:n≤1000000):(Instr.makeSlice 85 (.int .i64 (n:Int)) (.int .i64 (n:Int))).run Tryz.prog w = .ok (.slice (some ⟨w.heap.size,0,none⟩) n n) (w.alloc (.cells (scells (List.replicate n [])).toArray 22)):=by
 have:=run_make_row' (P:=Tryz.prog) 85 22 (.string ⟨#[]⟩) 16 Tryz.underlying85 info_txt rfl .i64 .i64 n (by omega) (by omega) w
 rw[madeCells_eq] at this
 rw[scells_replicate]
 exact this
def txtTo (L:List Rat) (k:Nat):List Txt:=(L.take k).map rtext++List.replicate (L.length-k) []
theorem txtTo_length (L:List Rat) (k:Nat) (h:k≤L.length):(txtTo L k).length=L.length:=by simp[txtTo];omega
theorem txtTo_succ (L:List Rat) (k:Nat) (h:k<L.length):(txtTo L k).set k (rtext (L[k]?.getD 0))=txtTo L (k+1):=by
 unfold txtTo
 rw[List.take_add_one,List.getElem?_eq_getElem h,List.map_append,List.set_append_right _ _ (by simp;omega),show L.length-k=(L.length-(k+1))+1 by omega,List.replicate_succ,List.length_map,List.length_take,Nat.min_eq_left (by omega),Nat.sub_self,List.set_cons_zero,List.append_assoc]
 rfl
theorem scells_set (L:List Txt) (k:Nat) (l:Txt):(scells L).set k (.string ⟨l.toArray⟩)=scells (L.set k l):=by simp[scells,List.map_set,sv]
def writePostL (L:List Rat) (w:World) (e:Ending) (w':World):Prop:=
 Below w.heap.size w w'∧(((∀q∈L,¬tooLong q) ∧ ∃g,e = .returned (.tuple #[.slice (some ⟨g,0,none⟩) L.length L.length,.int .i64 0])∧w.heap.size≤g∧Own w' g 22 (scells (L.map rtext)))∨((∃q∈L,tooLong q)∧e = .returned (.tuple #[nilV,.int .i64 4])))
theorem convertW_c (b n c:Nat) (es:List El) (L:List Rat) (w:World) (hO:RowQ w b es L) (hn:n=L.length) (hl:n≤1000000) (_hc:n≤c) (hF:∀q∈L,FitQ q) (hG:Glob w):
  Calls Tryz.prog 208 #[.slice (some ⟨b,0,none⟩) n c,.func (.func 124) #[] #[]] w (writePostL L w):=by
 have hmk:=make_txt w n hl
 have HB:=hid (Own.make w 22 (scells (List.replicate n [])))
 have HN:=hid hn
 have HR:=hid hO
 have HF:=hid hF
 have HG:=hid hG
 clear hn hO hF hG
 go_enter Tryz.func208,Tryz.ntmps208
 go_wp2_with fail
 clear hmk
 go_loopg [15] n (fun gh i wr=>∃k:Nat,i = .int .i64 k∧k+gh=n∧Hid (∀q∈L.take k,¬tooLong q)∧Hid (Own wr w.heap.size 22 (scells (txtTo L k)))∧Hid (Below w.heap.size w wr))
 case atStart=>exact⟨0,rfl,by omega,hid (by simp),hid (by have:=HB.out;rw[HN.out] at this ⊢;simpa [txtTo] using this),hid ((Below.refl _ _).alloc (Nat.le_refl _) _)⟩
 case round=>
  clear HB
  obtain⟨k,rfl,hk,hI,hO,hB⟩:=hrel
  cases gk with
  | zero=>
   have hkl:k=n:=by omega
   have hin:¬((k:Int)<(n:Int)):=by omega
   have HI:=hid (show ∀q∈L,¬tooLong q by have:=hI.out;rwa [hkl,HN.out,List.take_of_length_le (Nat.le_refl _)] at this)
   have HO:=hid (show Own wr w.heap.size 22 (scells (L.map rtext)) by have:=hO.out;rw[hkl,HN.out] at this;simpa [txtTo] using this)
   clear hkl hI hO hk
   go_wp2
   go_ret2
   exact⟨hB.out,.inl ⟨HI.out,_,by rw[←HN.out];rfl,Nat.le_refl _,HO.out⟩⟩
  | succ gh=>
   have hlt:k<n:=by omega
   have hlt':(k:Int)<(n:Int):=by omega
   have hltL:k<L.length:=by rw[←HN.out];exact hlt
   obtain⟨q,hq⟩:∃q,L[k]? =some q:=⟨L[k],List.getElem?_eq_getElem hltL⟩
   obtain⟨e,A1,n1,c1,A2,n2,c2,zz0,hee,hrt,y0,y1,y2,zz1,zz2,zz3⟩:=(HR.out.below hB.out).at_ (j:=k) hltL
   clear zz0 zz1 zz2 zz3
   obtain⟨e0,ea,eb⟩:=e
   have hea:ea = .slice A1 n1 c1∧eb = .slice A2 n2 c2:=by simpa using hee
   obtain⟨rfl,rfl⟩:=hea
   clear hee
   unfold elV at hrt
   dsimp only at y0 hrt
   have hbl:b<wr.heap.size:=(HR.out.below hB.out).own.lt
   have hqF:=HF.out q (List.mem_of_getElem? hq)
   have hck2:=(hO.out.cell k).trans (scells_at _ k (by rw[txtTo_length L k (by omega)];omega))
   have hfr:=hO.out.free k
   have hol:=hO.out.lt
   have Hs:=hid (txtTo_succ L k hltL)
   have Ht:Hid (L.take (k+1)=L.take k++[q]):=hid (by rw[List.take_add_one,hq];rfl)
   have Hm:Hid (q∈L):=hid (List.mem_of_getElem? hq)
   have Hk:=hid hk
   have hqe:L[k]?.getD 0=q:=by rw[hq];rfl
   rw[hqe] at hrt Hs
   have hal:Below wr.heap.size wr (wr.alloc (.cells #[.bool e0,.slice A1 n1 c1,.slice A2 n2 c2] 122)):=(Below.refl _ _).alloc (Nat.le_refl _) _
   have WR:=hid (write_c (.agg #[.bool e0,.slice A1 n1 c1,.slice A2 n2 c2]) q _ (hrt.below hal) hqF.1 hqF.2 (HG.out.below (hB.out.trans (hal.mono hB.out.size))))
   generalize (txtTo L k)[k]?.getD []=y at *
   unfold sv at hck2
   clear hq hqF hqe hk hrt hal
   go_wp2_with fail
   refine WR.out.mono ?_
   clear WR
   rintro e w1 ⟨rfl,hB1⟩
   have hB15:Below wr.heap.size wr w1:=((Below.refl wr.heap.size wr).alloc (Nat.le_refl _) _).trans (hB1.mono (by simp))
   have hck3:=(hB15.cell (p:=⟨w.heap.size,k,none⟩) hol).trans hck2
   have hfr3:=(hB15.frozen (p:=⟨w.heap.size,k,none⟩) hol).trans hfr
   have hol3:w.heap.size<w1.heap.size:=Nat.lt_of_lt_of_le hol hB15.size
   by_cases hlong:tooLong q
   ·rw[writeEnd_long hlong]
    have HX:Hid (∃q∈L,tooLong q):=hid ⟨q,Hm.out,hlong⟩
    have HB2:=hid ((hB.out.trans (hB15.mono hB.out.size)).setCell (p:=⟨w.heap.size,k,none⟩) (Nat.le_refl _) (.string ⟨#[]⟩))
    clear hlong hB1 hB15 hO hB hI y0 y1 y2 hck2 hfr
    go_wp2
    go_ret2
    exact⟨HB2.out,.inr ⟨HX.out,rfl⟩⟩
   ·rw[writeEnd_ok hlong]
    have HI2:Hid (∀q∈L.take (k+1),¬tooLong q):=hid (by
     rw[Ht.out];intro z hz;rcases List.mem_append.1 hz with h | h
     ·exact hI.out z h
     ·rw[List.mem_singleton.1 h];exact hlong)
    have HO2:Hid (Own (w1.setCell ⟨w.heap.size,k,none⟩ (.string ⟨(rtext q).toArray⟩)) w.heap.size 22 (scells (txtTo L (k+1)))):=hid (by
     rw[←Hs.out,←scells_set];exact(hO.out.below hB15 hol).put _ _)
    have HB2:=hid ((hB.out.trans (hB15.mono hB.out.size)).setCell (p:=⟨w.heap.size,k,none⟩) (Nat.le_refl _) (.string ⟨(rtext q).toArray⟩))
    clear hlong hB1 hB15 hO hB hI y0 y1 y2 hck2 hfr Hs
    generalize rtext q=tx at *
    go_wp2
    go_roundg gh
    case rel=>exact⟨k+1,by go_num,by have:=Hk.out;omega,HI2,HO2,HB2⟩
    case measure=>omega
theorem writeRow_c (b n c:Nat) (es:List El) (L:List Rat) (w:World) (hO:RowQ w b es L) (hn:n=L.length) (hl:n≤1000000) (_hc:n≤c) (hF:∀q∈L,FitQ q) (hG:Glob w):
  Calls Tryz.prog 155 #[.slice (some ⟨b,0,none⟩) n c] w (writePostL L w):=by
 have CW:=hid (convertW_c b n c es L w hO hn hl _hc hF hG)
 clear hO hn hF hG
 go_enter Tryz.func155,Tryz.ntmps155
 go_wp2_with fail
 refine CW.out.mono ?_
 rintro e w1 ⟨hB1,⟨hok,g,rfl,hg,hO1⟩ | ⟨hno,rfl⟩⟩
 ·have HO:=hid hO1
  have HK:=hid hok
  clear hO1 hok CW
  go_wp2
  go_ret2
  exact⟨hB1,.inl ⟨HK.out,g,rfl,hg,HO.out⟩⟩
 ·have HK:=hid hno
  clear hno CW
  go_wp2
  go_ret2
  exact⟨hB1,.inr ⟨HK.out,rfl⟩⟩
def RowsAt (w:World) (v:Value) (Ls:List (List Rat)):Prop:=
 ∃vs:List Value,SlW w v vs∧vs.length=Ls.length ∧ ∀(i:Nat) (L:List Rat),Ls[i]? =some L → ∃b c es,vs[i]? =some (.slice (some ⟨b,0,none⟩) L.length c)∧L.length≤c∧RowQ w b es L
theorem TblQ.rowsAt {w:World} {base n:Nat} {v:Value} {B:List (Nat×List Rat)} (h:TblQ w base v B n) (hl:B.length≤1000000):RowsAt w v (B.map (·.2)):=by
 refine⟨_,oSl h.1 (by omega),by simp,fun i L hL=> ?_⟩
 rw[List.getElem?_map] at hL
 cases hb:B[i]? with
 | none=>rw[hb] at hL;cases hL
 | some x=>
  rw[hb] at hL
  obtain rfl:=Option.some.inj hL
  have:=h.2.2 x (List.mem_of_getElem? hb)
  obtain⟨es,he⟩:=this.2.1
  exact⟨x.1,n,es,by rw[List.getElem?_map,hb,Option.map_some,this.2.2],by rw[this.2.2];exact Nat.le_refl _,he⟩
theorem info_slt:(Tryz.prog.info? 85).map (fun i=>(i.zero,i.size,i.bytes))=some (some (.slice none 0 0),1,24):=by kernel_rfl
theorem make_rowsT (w:World) (n:Nat) (hn:n≤1000000):(Instr.makeSlice 74 (.int .i64 (n:Int)) (.int .i64 (n:Int))).run Tryz.prog w = .ok (.slice (some ⟨w.heap.size,0,none⟩) n n) (w.alloc (.cells (List.replicate n nilV).toArray 85)):=by
 have:=run_make_row' (P:=Tryz.prog) 74 85 nilV 24 Tryz.underlying74 info_slt rfl .i64 .i64 n (by omega) (by omega) w
 rw[madeCells_eq] at this
 exact this
structure TxtsTo (w wr:World) (g m:Nat) (Ls:List (List Rat)) (k:Nat) (B:List (Nat×List Txt)):Prop where
 own:Own wr g 85 ((B.map fun r=>Value.slice (some ⟨r.1,0,none⟩) r.2.length r.2.length)++List.replicate (m-k) nilV)
 rows:∀r∈B,w.heap.size≤r.1∧Own wr r.1 22 (scells r.2)∧r.2.length≤1000000
 vals:B.map (·.2)=(Ls.take k).map (·.map rtext)
theorem TxtsTo.len {w wr:World} {g m k:Nat} {Ls:List (List Rat)} {B:List (Nat×List Txt)} (h:TxtsTo w wr g m Ls k B) (hk:k≤Ls.length):B.length=k:=by
 have:=congrArg List.length h.vals
 simp at this;omega
theorem TxtsTo.step {w wr w1:World} {g gn k:Nat} {Ls:List (List Rat)} {B:List (Nat×List Txt)} {L:List Rat} (h:TxtsTo w wr g Ls.length Ls k B) (hk:Ls[k]? =some L) (hL:L.length≤1000000) (hb:Below wr.heap.size wr w1) (hg:w.heap.size≤gn) (hO:Own w1 gn 22 (scells (L.map rtext))):
  TxtsTo w (w1.setCell ⟨g,k,none⟩ (.slice (some ⟨gn,0,none⟩) L.length L.length)) g Ls.length Ls (k+1) (B++[(gn,L.map rtext)]):=by
 have hkl:k<Ls.length:=(List.getElem?_eq_some_iff.1 hk).1
 have hB:=h.len (by omega)
 have hO1:=h.own.below hb h.own.lt
 have hne:∀(b:Nat) (cs:List Value),Own w1 b 22 cs→b≠g:=fun b cs h1 e=>by
  unfold Own at h1 hO1
  rw[e,hO1] at h1
  injection h1 with h1
  injection h1 with _ h1
  exact absurd h1 (by decide)
 refine⟨?_,fun x hx=> ?_,?_⟩
 ·have:=hO1.put k (.slice (some ⟨gn,0,none⟩) L.length L.length)
  rw[List.set_append_right _ _ (by simp[hB]),show Ls.length-k=(Ls.length-(k+1))+1 by omega,List.replicate_succ,List.length_map,hB,Nat.sub_self,List.set_cons_zero] at this
  rw[List.map_append,List.append_assoc]
  simpa using this
 ·rcases List.mem_append.1 hx with hx | hx
  ·have:=h.rows x hx
   have h1:=this.2.1.below hb this.2.1.lt
   exact⟨this.1,h1.other (p:=⟨g,k,none⟩) (hne _ _ h1) _,this.2.2⟩
  ·obtain rfl:=List.mem_singleton.1 hx
   exact⟨hg,hO.other (p:=⟨g,k,none⟩) (hne _ _ hO) _,by simpa using hL⟩
 ·rw[List.map_append,h.vals,List.take_add_one,hk,List.map_append];rfl
def AllShort (Ls:List (List Rat)):Prop:=∀L∈Ls,∀q∈L,¬tooLong q
def writePostM (Ls:List (List Rat)) (w:World) (e:Ending) (w':World):Prop:=
 Below w.heap.size w w'∧((AllShort Ls ∧ ∃(g:Nat) (B:List (Nat×List Txt)),e = .returned (.tuple #[.slice (some ⟨g,0,none⟩) Ls.length Ls.length,.int .i64 0])∧w.heap.size≤g∧TxtsTo w w' g Ls.length Ls Ls.length B)∨(¬AllShort Ls∧e = .returned (.tuple #[nilV,.int .i64 4])))
theorem convertWR_c (v:Value) (Ls:List (List Rat)) (w:World) (hv:RowsAt w v Ls) (hl:Ls.length≤1000000) (hL:∀L∈Ls,L.length≤1000000 ∧ ∀q∈L,FitQ q) (hG:Glob w):
  Calls Tryz.prog 200 #[v,.func (.func 155) #[] #[]] w (writePostM Ls w):=by
 obtain⟨vs,hs,hvl,hrow⟩:=hv
 obtain⟨A,c,rfl,hc1,hc2,hcell⟩:=hs
 have HROW:=hid hrow
 have HC:=hid hcell
 have HL:=hid hL
 have HG:=hid hG
 have Hvl:=hid hvl
 rw[hvl] at hc1 hc2 ⊢
 clear hrow hcell hL hG hvl
 have hmk:=make_rowsT w Ls.length hl
 have HO:=hid (Own.make w 85 (List.replicate Ls.length nilV))
 go_enter Tryz.func200,Tryz.ntmps200
 go_wp2_with fail
 clear hmk
 go_loopg [15] Ls.length (fun gh i wr=>∃(k:Nat) (B:List (Nat×List Txt)),i = .int .i64 k∧k+gh=Ls.length∧Hid (AllShort (Ls.take k))∧Hid (TxtsTo w wr w.heap.size Ls.length Ls k B)∧Hid (Below w.heap.size w wr))
 case atStart=>exact⟨0,[],rfl,by omega,hid (by unfold AllShort;simp),hid ⟨by simpa using HO.out,by simp,by simp⟩,hid ((Below.refl _ _).alloc (Nat.le_refl _) _)⟩
 case round=>
  clear HO
  obtain⟨k,B,rfl,hk,hI,hT,hB⟩:=hrel
  cases gk with
  | zero=>
   have hkl:k=Ls.length:=by omega
   have hin:¬((k:Int)<(Ls.length:Int)):=by omega
   have HI:=hid (show AllShort Ls by have:=hI.out;rwa [hkl,List.take_of_length_le (Nat.le_refl _)] at this)
   rw[hkl] at hT
   clear hkl hI hk
   go_wp2
   go_ret2
   exact⟨hB.out,.inl ⟨HI.out,_,B,rfl,Nat.le_refl _,hT.out⟩⟩
  | succ gh=>
   have hlt:k<Ls.length:=by omega
   have hlt':(k:Int)<(Ls.length:Int):=by omega
   obtain⟨L,hL0⟩:∃L,Ls[k]? =some L:=⟨Ls[k],List.getElem?_eq_getElem hlt⟩
   obtain⟨b,cb,es,hvk,hcb,hR⟩:=HROW.out k L hL0
   obtain⟨b0,off,rfl,hbb,hcell⟩:=HC.out (by rw[Hvl.out];omega)
   have hck:=(hB.out.cell (p:=⟨b0,off+k,none⟩) hbb).trans ((hcell k (by rw[Hvl.out];exact hlt)).trans hvk)
   obtain⟨hL1,hL2⟩:=HL.out L (List.mem_of_getElem? hL0)
   have WR:=hid (writeRow_c b L.length cb es L wr (hR.below hB.out) rfl hL1 hcb hL2 (HG.out.below hB.out))
   have hck2:=(hT.out.own.cell k).trans (show _=some nilV by
    rw[List.getElem?_append_right (by rw[List.length_map,hT.out.len (by omega)];exact Nat.le_refl _),List.length_map,hT.out.len (by omega),Nat.sub_self,List.getElem?_replicate,if_pos (by omega)])
   have hfr:=hT.out.own.free k
   have hol:=hT.out.own.lt
   have Ht:Hid (Ls.take (k+1)=Ls.take k++[L]):=hid (by rw[List.take_add_one,hL0];rfl)
   have Hm:=hid (List.mem_of_getElem? hL0)
   have HL0:=hid hL0
   have Hk:=hid hk
   clear hcell hL0 hk hvk hR hL2
   go_wp2_with fail
   refine WR.out.mono ?_
   clear WR
   rintro e w1 ⟨hB1,⟨hok,gn,rfl,hgn,hO1⟩ | ⟨hno,rfl⟩⟩
   ·have hck3:=(hB1.cell (p:=⟨w.heap.size,k,none⟩) hol).trans hck2
    have hfr3:=(hB1.frozen (p:=⟨w.heap.size,k,none⟩) hol).trans hfr
    have hol3:w.heap.size<w1.heap.size:=Nat.lt_of_lt_of_le hol hB1.size
    have HI2:Hid (AllShort (Ls.take (k+1))):=hid (by
     rw[Ht.out];intro z hz;rcases List.mem_append.1 hz with h | h
     ·exact hI.out z h
     ·rw[List.mem_singleton.1 h];exact hok)
    have HT2:=hid (hT.out.step HL0.out hL1 hB1 (Nat.le_trans hB.out.size hgn) hO1)
    have HB2:=hid ((hB.out.trans (hB1.mono hB.out.size)).setCell (p:=⟨w.heap.size,k,none⟩) (Nat.le_refl _) (.slice (some ⟨gn,0,none⟩) L.length L.length))
    clear hok hB1 hO1 hT hB hI hck2 hfr hck
    go_wp2
    go_roundg gh
    case rel=>exact⟨k+1,_,by go_num,by have:=Hk.out;omega,HI2,HT2,HB2⟩
    case measure=>omega
   ·have hck3:=(hB1.cell (p:=⟨w.heap.size,k,none⟩) hol).trans hck2
    have hfr3:=(hB1.frozen (p:=⟨w.heap.size,k,none⟩) hol).trans hfr
    have hol3:w.heap.size<w1.heap.size:=Nat.lt_of_lt_of_le hol hB1.size
    have HX:Hid (¬AllShort Ls):=hid (fun h=>by obtain⟨q,hq,hl⟩:=hno;exact h L Hm.out q hq hl)
    have HB2:=hid ((hB.out.trans (hB1.mono hB.out.size)).setCell (p:=⟨w.heap.size,k,none⟩) (Nat.le_refl _) nilV)
    clear hno hB1 hT hB hI hck2 hfr hck
    go_wp2
    go_ret2
    exact⟨HB2.out,.inr ⟨HX.out,rfl⟩⟩
theorem writeRows_c (v:Value) (Ls:List (List Rat)) (w:World) (hv:RowsAt w v Ls) (hl:Ls.length≤1000000) (hL:∀L∈Ls,L.length≤1000000 ∧ ∀q∈L,FitQ q) (hG:Glob w):
  Calls Tryz.prog 146 #[v] w (writePostM Ls w):=by
 have CW:=hid (convertWR_c v Ls w hv hl hL hG)
 obtain⟨vs,⟨A,c,rfl,_,_,_⟩,hvl,_⟩:=hv
 rw[hvl] at CW ⊢
 clear hL hG hvl
 go_enter Tryz.func146,Tryz.ntmps146
 go_wp2_with fail
 refine CW.out.mono ?_
 rintro e w1 ⟨hB1,⟨hok,g,B,rfl,hg,hO1⟩ | ⟨hno,rfl⟩⟩
 ·have HO:=hid hO1
  have HK:=hid hok
  clear hO1 hok CW
  go_wp2
  go_ret2
  exact⟨hB1,.inl ⟨HK.out,g,B,rfl,hg,HO.out⟩⟩
 ·have HK:=hid hno
  clear hno CW
  go_wp2
  go_ret2
  exact⟨hB1,.inr ⟨HK.out,rfl⟩⟩
def kerL (n:Nat) (M:List (List Rat)):List (List Rat):=nsBasis ratF 0 1 n (elimM ratF n (M.map List.reverse)) n
def widM {α:Type} (M:List (List α)):Nat:=(M[0]?.map (·.length)).getD 0
theorem FitQ.neg0 {y:Rat} (h:FitQ y):FitQ (0-y):=by
 rw[Rat.sub_eq_add_neg,Rat.zero_add]
 exact⟨by rw[Rat.neg_num,Int.natAbs_neg];exact h.1,by rw[Rat.neg_den];exact h.2⟩
theorem fitQ_zero:FitQ 0:=⟨.small (by decide),.small (by decide)⟩
theorem fitQ_one:FitQ 1:=⟨.small (by decide),.small (by decide)⟩
theorem FinOk.num {S:ElS Rat} (h:FinOk S) (i j:Nat):FitQ (numT ratF S.rows i j):=by
 unfold numT rowOf
 cases hr:S.rows[i]? with
 | none=>exact fitQ_zero
 | some r=>
  simp only[Option.map_some,Option.getD_some]
  cases hx:r.2.2[j]? with
  | none=>exact fitQ_zero
  | some x=>exact h r (List.mem_of_getElem? hr) x (List.mem_of_getElem? hx)
theorem FinOk.nsSet {S:ElS Rat} (h:FinOk S) (col k:Nat) (L:List Rat) (hL:∀q∈L,FitQ q):∀q∈nsSet ratF 0 S col k L,FitQ q:=by
 induction k with
 | zero=>exact hL
 | succ k ih=>
  intro q hq
  rw[nsSet_succ] at hq
  rcases List.mem_or_eq_of_mem_set hq with hq | rfl
  ·exact ih q hq
  ·exact(h.num k col).neg0
theorem FinOk.basis {S:ElS Rat} (h:FinOk S) (n k:Nat):∀L∈nsBasis ratF 0 1 n S k,L.length=n ∧ ∀q∈L,FitQ q:=by
 induction k with
 | zero=>simp[nsBasis]
 | succ k ih=>
  intro L hL
  unfold nsBasis at hL
  rcases List.mem_append.1 hL with hL | hL
  ·exact ih L hL
  ·split at hL
   ·cases hL
   ·obtain rfl:=List.mem_singleton.1 hL
    unfold nsList
    refine⟨by rw[List.length_reverse,nsSet_length];simp,fun q hq=> ?_⟩
    refine h.nsSet _ _ _ (fun z hz=> ?_) q (List.mem_reverse.1 hq)
    rcases List.mem_or_eq_of_mem_set hz with hz | rfl
    ·rw[List.eq_of_mem_replicate hz];exact fitQ_zero
    ·exact fitQ_one
theorem FinOk.same {S Z:ElS Rat} (h:SameS S Z) (hz:FinOk Z):FinOk S:=by
 intro r hr x hx
 have h1:r.2.2∈valsT S.rows:=List.mem_map_of_mem hr
 rw[h.rows] at h1
 obtain⟨q,hq,he⟩:=List.mem_map.1 h1
 exact hz q hq x (by rw[he];exact hx)
theorem TxtsTo.mono {w w0 wr:World} {g m k:Nat} {Ls:List (List Rat)} {B:List (Nat×List Txt)} (h:TxtsTo w wr g m Ls k B) (hw:w0.heap.size≤w.heap.size):TxtsTo w0 wr g m Ls k B:=
 ⟨h.own,fun r hr=>⟨Nat.le_trans hw (h.rows r hr).1,(h.rows r hr).2⟩,h.vals⟩
theorem matErr_ok {M:List (List Txt)} (h:matErr M=0):M.length≤256∧widM M≤256:=by
 unfold matErr at h
 split at h
 ·cases h
 ·refine⟨by omega,?_⟩
  cases M with
  | nil=>simp[widM]
  | cons a t=>
   simp only[List.getElem?_cons_zero,Option.map_some,Option.getD_some,rowsErr] at h
   split at h
   ·cases h
   ·simp[widM];omega
def matPost (Ls:List (List Rat)) (w:World) (e:Ending) (w':World):Prop:=
 (AllShort Ls ∧ ∃(g:Nat) (B:List (Nat×List Txt)),e = .returned (.tuple #[.slice (some ⟨g,0,none⟩) Ls.length Ls.length,.int .i64 0])∧w.heap.size≤g∧TxtsTo w w' g Ls.length Ls Ls.length B)∨(¬AllShort Ls∧e = .returned (.tuple #[nilV,.int .i64 4]))
def kernPost (M:List (List Txt)) (w:World) (e:Ending) (w':World):Prop:=
 Below w.heap.size w w'∧((matErr M=0∧matPost (kerL (widM M) (M.map rvals)) w e w')∨(matErr M≠0∧e = .returned (.tuple #[nilV,.int .i64 (matErr M)])))
def KerOk (n:Nat) (M:List (List Rat)):Prop:=OkM n (M.map List.reverse)∧FinOk (elimM ratF n (M.map List.reverse))
theorem Kernel_c (v:Value) (M:List (List Txt)) (w:World) (hv:TblT w v M) (hT:∀r∈M,∀l∈r,TxtOk l) (hG:Glob w) (hok:matErr M=0→KerOk (widM M) (M.map rvals)):
  Calls Tryz.prog 69 #[v] w (kernPost M w):=by
 have RR:=hid (readRowsQ_c v M w hv hT hG)
 obtain⟨A,c,rfl,_,_⟩:=hv.form
 have HOK:=hid hok
 have HG:=hid hG
 clear hv hT hG hok
 go_enter Tryz.func69,Tryz.ntmps69
 go_wp2_with fail
 refine RR.out.mono ?_
 clear RR
 rintro e w1 ⟨hB1,⟨hM,g,R,rfl,hg,hnew,hmx,hvals⟩ | ⟨hM,rfl⟩⟩
 ·change MxR w1 g R (widM M) at hmx
  obtain⟨hm1,hn1⟩:=matErr_ok hM
  have HM:=hid hM
  obtain⟨hok1,hok2⟩:=HOK.out hM
  have hRl:R.length=M.length:=by rw[←vals_len R,hvals];simp
  have hv2:valsT (mapTo List.reverse R R.length)=(M.map rvals).map List.reverse:=by rw[mapTo_all_vals,hvals]
  have hE:=hok1.rows hv2
  rw[mapTo_length] at hE
  have hS:SameS (elGo ratF (widM M) R.length 0 ⟨mapTo List.reverse R R.length,[],[],false⟩) (elimM ratF (widM M) ((M.map rvals).map List.reverse)):=by
   have:=elim_same (F:=ratF) hv2 (widM M)
   rwa [mapTo_length] at this
  have hF:=FinOk.same hS hok2
  have NS:=hid (nullSpaceQ_c g M.length (widM M) R w1 hmx (by omega) (by omega) (by omega) (fun h=>by
   have:M=[]:=List.length_eq_zero_iff.1 (by rw[←hRl,h];rfl)
   subst this;rfl) hE hF)
  rw[hRl] at NS
  have HS:=hid hS
  have HF:=hid hok2
  have Hbl:Hid (∀k∈g::R.map (·.1),w.heap.size≤k):=hid (fun k hk=>by
   rcases List.mem_cons.1 hk with rfl | hk
   ·exact hg
   ·obtain⟨r,hr,rfl⟩:=List.mem_map.1 hk;exact hnew r hr)
  have Hvals:=hid hvals
  have HB1:=hid hB1
  clear hmx hnew hvals hok1 hok2 hE hF hS hv2 hM hB1 hRl hg HOK
  go_wp2_with fail
  refine NS.out.mono ?_
  clear NS
  rintro e w2 ⟨v2,B,rfl,hBv,hTb,hbs⟩
  have hker:B.map (·.2)=kerL (widM M) (M.map rvals):=by rw[hBv,HS.out.nsBasis];rfl
  have hBl:B.length≤widM M:=by
   have h1:=congrArg List.length hBv
   have h2:=nsBasis_length ratF (0:Rat) 1 (widM M) (elGo ratF (widM M) R.length 0 ⟨mapTo List.reverse R R.length,[],[],false⟩) (widM M)
   rw[List.length_map] at h1
   omega
  have hRA:=hTb.rowsAt (by omega)
  rw[hker] at hRA
  have hB2:Below w.heap.size w w2:=HB1.out.trans (hbs.toBelow Hbl.out HB1.out.size)
  have hkb:=HF.out.basis (widM M) (widM M)
  have WR:=hid (writeRows_c v2 (kerL (widM M) (M.map rvals)) w2 hRA (by rw[←hker,List.length_map];omega) (fun L hL=>⟨by have:=(hkb L hL).1;omega,(hkb L hL).2⟩) (HG.out.below hB2))
  have HB2:=hid hB2
  obtain⟨A9,k9,rfl,_,_⟩:=oForm hTb.1
  clear hBv hTb hbs hker hRA hkb hB2
  generalize hKe:kerL (widM M) (M.map rvals)=K at *
  have HKe:=hid hKe
  clear hKe
  go_wp2_with fail
  refine WR.out.mono ?_
  clear WR
  rintro e w3 ⟨hB3,⟨hsh,g3,B3,rfl,hg3,hT3⟩ | ⟨hsh,rfl⟩⟩
  ·have HX:=hid hsh
   have HT3:=hid hT3
   have HB3:=hid (HB2.out.trans (hB3.mono HB2.out.size))
   have hgg:w.heap.size≤g3:=Nat.le_trans HB2.out.size hg3
   clear hsh hT3 hB3
   go_wp2
   go_ret2
   exact⟨HB3.out,.inl ⟨HM.out,by rw[HKe.out];exact .inl ⟨HX.out,g3,B3,rfl,hgg,HT3.out.mono HB2.out.size⟩⟩⟩
  ·have HX:=hid hsh
   have HB3:=hid (HB2.out.trans (hB3.mono HB2.out.size))
   clear hsh hB3
   go_wp2
   go_ret2
   exact⟨HB3.out,.inl ⟨HM.out,by rw[HKe.out];exact .inr ⟨HX.out,rfl⟩⟩⟩
 ·have HX:=hid hM
  have hne:(matErr M != 0)=true:=by simpa using hM
  clear HOK hM
  generalize hec:matErr M=ec at *
  have HEC:=hid hec
  clear hec
  go_wp2
  go_ret2
  exact⟨hB1,.inr ⟨by rw[HEC.out];exact HX.out,by rw[HEC.out];rfl⟩⟩
end Go.Proofs.YtneafcdfnhnpnaaGreatDoor
