/- Contracts of the reference: sums, products, quotients, comparisons of numbers. -/
import Derived.Test.YtneafcdfnhnpnaaGreatDoorZD39
import Derived.Test.YtneafcdfnhnpnaaGreatDoorZD30
set_option maxRecDepth 100000
set_option maxHeartbeats 4000000
namespace Go.Proofs.YtneafcdfnhnpnaaGreatDoor
open Go.RowKit Go.Lib
@[irreducible] def jS:Nat:=400000
theorem KY:jS+jS+1≤xw:=by unfold jS xw;decide
def qi (q:Rat):Prop:=q.num.natAbs<B9^jS∧q.den<B9^jS
theorem xH {x:Nat} (h:x<B9^jS):jP x:=Nat.lt_of_lt_of_le h (Nat.pow_le_pow_right (by decide) (by have:=KY;omega))
theorem Y3 {a b:Nat} (ha:a<B9^jS) (hb:b<B9^jS):a*b<B9^(jS+jS):=by
 rw[Nat.pow_add];exact Nat.mul_lt_mul'' ha hb
theorem K2 {a b:Nat} (ha:a<B9^jS) (hb:b<B9^jS):jP (a*b):=Nat.lt_of_lt_of_le (Y3 ha hb) (Nat.pow_le_pow_right (by decide) (by have:=KY;omega))
theorem EG {a b:Nat} (ha:a<B9^(jS+jS)) (hb:b<B9^(jS+jS)):jP (a+b):=by
 have h1:B9^(jS+jS+1)≤B9^xw:=Nat.pow_le_pow_right (by decide) KY;have h2:B9^(jS+jS)*2≤B9^(jS+jS)*B9:=Nat.mul_le_mul_left _ (by decide);rw[Nat.pow_succ] at h1;unfold jP;omega
theorem qi.digits {x:Nat} (h:x<B9^jS):(decDigits x).length≤9000000:=by
 rw[decDigits_length]
 have h2:B9^jS=10^(9*jS):=by rw[Nat.pow_mul]
 have h3:10^(9*jS)≤10^(9*jS+1):=Nat.pow_le_pow_right (by decide) (by omega);have h4:=Jx (9*jS) x (by rw[h2] at h;omega);have h5:=KY;have:=Xe;omega
theorem qi.bigD {q:Rat} (h:qi q):JN q:=⟨qi.digits h.1,qi.digits h.2⟩
theorem MG (p q:Rat) (w:World) (hp:qi p) (hq:qi q):
  Calls Tryz.prog 26 #[.string ⟨(jg p).toArray⟩,.string ⟨(jg q).toArray⟩] w (kT (jg (p+q)) w):=by
 by_cases hs:qq p∧qq q
 ·exact MK p q w hs.1 hs.2
 ·have m1:=Y3 hp.1 hq.2
  have m2:=Y3 hq.1 hp.2
  refine MJ _ _ _ (decide (qq p)) (decide (qq q)) ?_ (p.num*q.den) (q.num*p.den) (p.num*q.den+q.num*p.den) ((p.den:Int)*q.den) p.num q.num p.den q.den w (hid fun W=>Xq p W) (hid fun W=>Xq q W) (hid fun W=>Qb p W hp.bigD) (hid fun W=>Qb q W hq.bigD)
   (hid fun W a b ha hb=>Qh a b _ _ W ha hb (xH hp.1) (by rw[Int.natAbs_natCast];exact xH hq.2)) (hid fun W a b ha hb=>Qh a b _ _ W ha hb (xH hq.1) (by rw[Int.natAbs_natCast];exact xH hp.2))
   (hid fun W a b ha hb=>CH a b _ _ W ha hb (by rw[Int.natAbs_mul,Int.natAbs_natCast];exact K2 hp.1 hq.2) (by rw[Int.natAbs_mul,Int.natAbs_natCast];exact K2 hq.1 hp.2))
   (hid fun W a b ha hb=>Qh a b _ _ W ha hb (by rw[Int.natAbs_natCast];exact xH hp.2) (by rw[Int.natAbs_natCast];exact xH hq.2))
   (hid fun W a b ha hb=> ?_)
  ·by_cases h1:qq p
   ·have h2:¬qq q:=fun h=>hs ⟨h1,h⟩
    rw[decide_eq_false h2,Bool.and_false]
   ·rw[decide_eq_false h1,Bool.false_and]
  ·rw[←Int.natCast_mul] at hb
   have hle:(p.num*(q.den:Int)+q.num*(p.den:Int)).natAbs≤p.num.natAbs*q.den+q.num.natAbs*p.den:=by
    have:=Int.natAbs_add_le (p.num*(q.den:Int)) (q.num*(p.den:Int));rw[Int.natAbs_mul,Int.natAbs_mul,Int.natAbs_natCast,Int.natAbs_natCast] at this;exact this
   have h:=YN a b _ _ W ha hb (Nat.mul_pos p.den_pos q.den_pos) ((EG m1 m2).le hle) (K2 hp.2 hq.2);rw[Jb,←Rat.add_def'] at h;exact h
theorem XU (p q:Rat) (w:World) (hp:qi p) (hq:qi q):
  Calls Tryz.prog 28 #[.string ⟨(jg p).toArray⟩,.string ⟨(jg q).toArray⟩] w (kT (jg (p*q)) w):=by
 by_cases hs:qq p∧qq q
 ·exact M9 p q w hs.1 hs.2
 ·refine M8 _ _ _ (decide (qq p)) (decide (qq q)) ?_ (p.num*q.num) ((p.den:Int)*q.den) p.num q.num p.den q.den w (hid fun W=>Xq p W) (hid fun W=>Xq q W) (hid fun W=>Qb p W hp.bigD) (hid fun W=>Qb q W hq.bigD)
   (hid fun W a b ha hb=>Qh a b _ _ W ha hb (xH hp.1) (xH hq.1))
   (hid fun W a b ha hb=>Qh a b _ _ W ha hb (by rw[Int.natAbs_natCast];exact xH hp.2) (by rw[Int.natAbs_natCast];exact xH hq.2))
   (hid fun W a b ha hb=> ?_)
  ·by_cases h1:qq p
   ·have h2:¬qq q:=fun h=>hs ⟨h1,h⟩
    rw[decide_eq_false h2,Bool.and_false]
   ·rw[decide_eq_false h1,Bool.false_and]
  ·rw[←Int.natCast_mul] at hb
   have h:=YN a b _ _ W ha hb (Nat.mul_pos p.den_pos q.den_pos) (by rw[Int.natAbs_mul];exact K2 hp.1 hq.1) (K2 hp.2 hq.2);rw[Jb,←Rat.mul_def'] at h;exact h
theorem Ss {n:Nat} (h:decDigits n=[48]):n=0:=by
 have:=congrArg jf h;rw[zT] at this;exact this
theorem GG:jg 0=[48]:=by unfold jg;rw[if_neg (by decide),if_pos (by decide)];exact(by rw[List.nil_append,List.append_nil];exact decDigits_one (by decide))
theorem JB (q:Rat):jg q=[48]↔q=0:=by
 constructor
 ·intro h
  have h1:=congrArg List.length h;have hl:=zw q.num.natAbs;unfold jg at h h1;by_cases hn:q.num<0
  ·rw[if_pos hn,List.length_append,List.length_append] at h1
   simp only[List.length_cons,List.length_nil] at h1;omega
  ·rw[if_neg hn] at h h1
   by_cases hd:q.den=1
   ·rw[if_pos hd] at h
    have h3:q.num.natAbs=0:=Ss (by simpa using h);exact Rat.num_eq_zero.1 (by omega)
   ·rw[if_neg hd,List.length_append,List.length_append] at h1
    simp only[List.length_cons,List.length_nil] at h1;omega
 ·rintro rfl;exact GG
theorem Qj (q:Rat):(jg q)[0]? =some 45↔q.num<0:=by
 unfold jg;by_cases h:q.num<0
 ·rw[if_pos h];simp[h]
 ·rw[if_neg h,List.nil_append,List.getElem?_append_left (zw _)]
  constructor
  ·intro h2
   have:=qZ q.num.natAbs 45 (List.mem_of_getElem? h2);exact absurd this.1 (by decide)
  ·intro h2;exact absurd h2 h
theorem G9 (q:Rat):qm (jg q)=qM q:=by
 unfold qm;by_cases h0:q=0
 ·rw[if_pos ((JB q).2 h0)];subst h0;rfl
 ·rw[if_neg (fun h=>h0 ((JB q).1 h))]
  have hn:q.num≠0:=fun h=>h0 (Rat.num_eq_zero.1 h)
  by_cases h1:q.num<0
  ·rw[if_pos ((Qj q).2 h1)];unfold qM;simp[hn,h1]
  ·rw[if_neg (fun h=>h1 ((Qj q).1 h))];unfold qM;simp[hn,h1]
theorem Fh (q:Rat):jg (-q)=if q.num<0 then (jg q).drop 1 else if q=0 then jg q else 45::jg q:=by
 have hn:(-q).num = -q.num:=Rat.neg_num q;have hd:(-q).den=q.den:=Rat.neg_den q;by_cases h:q.num<0
 ·rw[if_pos h]
  unfold jg;rw[hn,hd,if_neg (by omega),if_pos h,Int.natAbs_neg]
  simp
 ·rw[if_neg h]
  by_cases h0:q=0
  ·rw[if_pos h0];subst h0;rfl
  ·rw[if_neg h0]
   have hne:q.num≠0:=fun h=>h0 (Rat.num_eq_zero.1 h)
   unfold jg;rw[hn,hd,if_pos (by omega),if_neg h,Int.natAbs_neg]
   simp
theorem GD (q:Rat) (h:JN q):(jg q).length≤4000000000000000000:=by
 obtain⟨h1,h2⟩:=h;unfold jg;rw[List.length_append,List.length_append]
 split <;> split <;> simp <;> omega
theorem Z9 (q:Rat) (w:World) (h:JN q):Calls Tryz.prog 120 #[.string ⟨(jg q).toArray⟩] w (kT (jg (-q)) w):=by
 have hl:=GD q h;have SG:=hid (fun W=>Gd (jg q) W hl);rw[G9] at SG;have HN:=hid (Fh q);generalize hss:(⟨(jg q).toArray⟩:ByteArray)=s at *
 have hs:s.data.toList=jg q:=by rw[←hss]
 have hz:=kC hs;have HSS:=hid hss;clear hss
 have hr:qM q=if q.num<0 then -1 else if q=0 then 0 else 1:=by
  rw[←G9];unfold qm;by_cases h1:q.num<0
  ·rw[if_pos h1,if_neg (fun h=>by have:=(JB q).1 h;subst this;exact absurd h1 (by decide)),if_pos ((Qj q).2 h1)]
  ·rw[if_neg h1]
   by_cases h0:q=0
   ·rw[if_pos h0,if_pos ((JB q).2 h0)]
   ·rw[if_neg h0,if_neg (fun h=>h0 ((JB q).1 h)),if_neg (fun h=>h1 ((Qj q).1 h))]
 by_cases h1:q.num<0
 ·rw[if_pos h1] at hr
  rw[hr] at SG
  have hz1:(1:Int)≤(s.size:Int):=by
   have:=(Qj q).2 h1;rw[List.getElem?_eq_some_iff] at this;obtain⟨h2,_⟩:=this;omega
  have HE:Hid (s.extract 1 s.size=⟨(jg (-q)).toArray⟩):=hid (by
   rw[XE (s.extract 1 s.size),xI hs,HN.out,if_pos h1,hz,List.take_of_length_le (Nat.le_refl _)])
  clear hr h1 hs hz HN;go_enter Tryz.func120,Tryz.ntmps120
  go_wp2_with fail
  refine(SG.out _).mono ?_;rintro e w1 ⟨rfl,rfl⟩
  go_wp2
  go_ret;exact⟨by rw[←HE.out];rfl,Below.refl _ _⟩
 ·rw[if_neg h1] at hr
  by_cases h0:q=0
  ·rw[if_pos h0] at hr
   rw[hr] at SG;have HE:Hid (s=⟨(jg (-q)).toArray⟩):=hid (by rw[←HSS.out,HN.out,if_neg h1,if_pos h0]);clear hr h1 hs hz HN h0;go_enter Tryz.func120,Tryz.ntmps120
   go_wp2_with fail
   refine(SG.out _).mono ?_;rintro e w1 ⟨rfl,rfl⟩
   go_wp2_with fail
   refine(SG.out _).mono ?_;rintro e w1 ⟨rfl,rfl⟩
   go_wp2
   go_ret;exact⟨by rw[←HE.out];rfl,Below.refl _ _⟩
  ·rw[if_neg h0] at hr
   rw[hr] at SG;have HE:Hid ((ByteArray.mk #[45]:ByteArray)++s=⟨(jg (-q)).toArray⟩):=hid (by rw[←HSS.out,HN.out,if_neg h1,if_neg h0,KE])
   have hzI:(s.size:Int)≤4000000000000000000:=by omega
   clear hr h1 hs hz HN h0;go_enter Tryz.func120,Tryz.ntmps120
   go_wp2_with fail
   refine(SG.out _).mono ?_;rintro e w1 ⟨rfl,rfl⟩
   go_wp2_with fail
   refine(SG.out _).mono ?_;rintro e w1 ⟨rfl,rfl⟩
   go_wp2
   go_ret;exact⟨by rw[←HE.out];rfl,Below.refl _ _⟩
theorem qi.neg {q:Rat} (h:qi q):qi (-q):=by
 unfold qi;rw[Rat.neg_num,Rat.neg_den,Int.natAbs_neg];exact h
theorem Ej (p q:Rat) (w:World) (hp:qi p) (hq:qi q):
  Calls Tryz.prog 27 #[.string ⟨(jg p).toArray⟩,.string ⟨(jg q).toArray⟩] w (kT (jg (p-q)) w):=by
 have NG:=hid (fun W=>Z9 q W hq.bigD);have AD:=hid (fun W=>MG p (-q) W hp hq.neg);rw[←Rat.sub_eq_add_neg] at AD;generalize (⟨(jg p).toArray⟩:ByteArray)=s at *;generalize (⟨(jg q).toArray⟩:ByteArray)=t at *;go_enter Tryz.func27,Tryz.ntmps27
 go_wp2_with fail
 refine(NG.out _).mono ?_;rintro e w1 ⟨rfl,hB1⟩
 go_wp2_with fail
 refine(AD.out _).mono ?_;rintro e w2 ⟨rfl,hB2⟩
 go_wp2
 go_ret;exact⟨rfl,hB1.trans (hB2.mono hB1.size)⟩
theorem J6 (a:Int) (d:Nat) (hd:d≠0):(mkRat a d).num.natAbs≤a.natAbs∧(mkRat a d).den≤d:=by
 obtain⟨m,hm,h1,h2⟩:=Rat.mkRat_num_den hd (rfl:mkRat a d=⟨(mkRat a d).num,(mkRat a d).den,(mkRat a d).den_nz,(mkRat a d).reduced⟩);constructor
 ·conv=>rhs;rw[h1]
  rw[Int.natAbs_mul,Int.natAbs_natCast];exact Nat.le_mul_of_pos_right _ (by omega)
 ·conv=>rhs;rw[h2]
  exact Nat.le_mul_of_pos_right _ (by omega)
theorem EJ (p q:Rat):(p+q).num.natAbs≤p.num.natAbs*q.den+q.num.natAbs*p.den∧(p+q).den≤p.den*q.den:=by
 rw[Rat.add_def'];obtain⟨h1,h2⟩:=J6 (p.num*(q.den:Int)+q.num*(p.den:Int)) (p.den*q.den) (Nat.mul_ne_zero p.den_nz q.den_nz);refine⟨Nat.le_trans h1 ?_,h2⟩;have:=Int.natAbs_add_le (p.num*(q.den:Int)) (q.num*(p.den:Int));rw[Int.natAbs_mul,Int.natAbs_mul,Int.natAbs_natCast,Int.natAbs_natCast] at this;exact this
theorem V4 (p q:Rat):(p*q).num.natAbs≤p.num.natAbs*q.num.natAbs∧(p*q).den≤p.den*q.den:=by
 rw[Rat.mul_def'];obtain⟨h1,h2⟩:=J6 (p.num*q.num) (p.den*q.den) (Nat.mul_ne_zero p.den_nz q.den_nz);rw[Int.natAbs_mul] at h1;exact⟨h1,h2⟩
theorem Zt (x:Rat):(-x)⁻¹ = -x⁻¹:=by
 by_cases h:x=0
 ·subst h;simp
 ·exact Rat.inv_eq_of_mul_eq_one (by rw[Rat.mul_neg,Rat.neg_mul,Rat.neg_neg,Rat.mul_inv_cancel _ h])
theorem YO (q:Rat):q⁻¹=((q.den:Int):Rat)/((q.num:Int):Rat):=by
 rw[←Rat.divInt_eq_div]
 conv=>lhs;rw[←Rat.mkRat_self q,←Rat.divInt_ofNat,Rat.inv_divInt]
theorem Eg (s:ByteArray) (l:List UInt8) (x y:Int) (w:World) (PA:Hid (∀W,Calls Tryz.prog 105 #[.string s] W (xL x y W)))
  (FR:Hid (∀W a b,Ri W a y→Ri W b x→Calls Tryz.prog 117 #[a,b] W (kT l W))):
  Calls Tryz.prog 121 #[.string s] w (kT l w):=by
 go_enter Tryz.func121,Tryz.ntmps121
 go_wp2_with fail
 refine(PA.out _).mono ?_;rintro e w1 ⟨vp,vq,rfl,rp,rq,hB1⟩;obtain⟨Ap,np,cp,rfl,_,_⟩:=rp.open_;obtain⟨Aq,nq_,cq,rfl,_,_⟩:=rq.open_;generalize decide (x<0)=bp at *;generalize decide (y<0)=bq at *;obtain⟨W1,hW1,hBW1,hz1,o1,o2,rp1,rq1⟩:=zH rp rq
 go_upto_region 2 with fail
 rw[←hW1];have HB1:=hid (hB1.trans (hBW1.mono hB1.size));have HF:=hid (FR.out W1 _ _ rq1 rp1);obtain⟨a0,a1⟩:=o1.cell2;obtain⟨b0,b1⟩:=o2.cell2;clear hW1 hBW1 hz1 o1 o2 rp1 rq1 rp rq hB1 FR PA
 go_wp2_with fail
 refine HF.out.mono ?_;rintro e w2 ⟨rfl,hB2⟩;have HBF:=hid (HB1.out.trans (hB2.mono HB1.out.size));clear hB2 HF
 go_wp2
 go_ret;exact⟨rfl,HBF.out⟩
theorem Ef (q:Rat) (w:World) (hq:qi q) (h0:q≠0):
  Calls Tryz.prog 121 #[.string ⟨(jg q).toArray⟩] w (kT (jg q⁻¹) w):=by
 have hn:q.num≠0:=fun h=>h0 (Rat.num_eq_zero.1 h)
 refine Eg _ _ q.num q.den w (hid fun W=>Qb q W hq.bigD) (hid fun W a b ha hb=> ?_);rw[YO];by_cases h1:q.num<0
 ·have e:q.num = -((q.num.natAbs:Nat):Int):=by omega
  have h:=Nw a b (-(q.den:Int)) q.num.natAbs W (by rw[Int.neg_neg];exact ha) (by rw[←e];exact hb) (by omega) (by rw[Int.natAbs_neg,Int.natAbs_natCast];exact xH hq.2) (xH hq.1)
  have e2:(((-(q.den:Int):Int)):Rat)/(((q.num.natAbs:Nat):Int):Rat)=((q.den:Int):Rat)/((q.num:Int):Rat):=by
   conv=>rhs;rw[e]
   rw[Rat.intCast_neg,Rat.intCast_neg,Rat.div_def,Rat.div_def,Zt,Rat.mul_neg,Rat.neg_mul]
  rw[e2] at h;exact h
 ·have e:q.num=((q.num.natAbs:Nat):Int):=by omega
  have h:=YN a b (q.den:Int) q.num.natAbs W ha (by rw[←e];exact hb) (by omega) (by rw[Int.natAbs_natCast];exact xH hq.2) (xH hq.1);rw[←e] at h;exact h
theorem qi.inv {q:Rat} (h:qi q) (h0:q≠0):qi q⁻¹:=by
 have hn:q.num≠0:=fun h=>h0 (Rat.num_eq_zero.1 h)
 have key:q⁻¹.num.natAbs≤q.den∧q⁻¹.den≤q.num.natAbs:=by
  rw[YO];by_cases h1:q.num<0
  ·have e:((q.den:Int):Rat)/((q.num:Int):Rat)=mkRat (-(q.den:Int)) q.num.natAbs:=by
    have e:q.num = -((q.num.natAbs:Nat):Int):=by omega
    rw[←Jb]
    conv=>lhs;rw[e]
    rw[Rat.intCast_neg,Rat.intCast_neg,Rat.div_def,Rat.div_def,Zt,Rat.mul_neg,Rat.neg_mul]
   rw[e];have:=J6 (-(q.den:Int)) q.num.natAbs (by omega);rw[Int.natAbs_neg,Int.natAbs_natCast] at this;exact this
  ·have e:((q.den:Int):Rat)/((q.num:Int):Rat)=mkRat (q.den:Int) q.num.natAbs:=by
    have e:q.num=((q.num.natAbs:Nat):Int):=by omega
    rw[←Jb,←e]
   rw[e];have:=J6 (q.den:Int) q.num.natAbs (by omega);rw[Int.natAbs_natCast] at this;exact this
 exact⟨Nat.lt_of_le_of_lt key.1 h.2,Nat.lt_of_le_of_lt key.2 h.1⟩
theorem MW (p q:Rat) (w:World) (hp:qi p) (hq:qi q) (h0:q≠0):
  Calls Tryz.prog 31 #[.string ⟨(jg p).toArray⟩,.string ⟨(jg q).toArray⟩] w (kT (jg (p/q)) w):=by
 have RC:=hid (fun W=>Ef q W hq h0);have MU:=hid (fun W=>XU p q⁻¹ W hp (hq.inv h0));rw[←Rat.div_def] at MU;generalize (⟨(jg p).toArray⟩:ByteArray)=s at *;generalize (⟨(jg q).toArray⟩:ByteArray)=t at *;go_enter Tryz.func31,Tryz.ntmps31
 go_wp2_with fail
 refine(RC.out _).mono ?_;rintro e w1 ⟨rfl,hB1⟩
 go_wp2_with fail
 refine(MU.out _).mono ?_;rintro e w2 ⟨rfl,hB2⟩
 go_wp2
 go_ret;exact⟨rfl,hB1.trans (hB2.mono hB1.size)⟩
theorem M5 (q:Rat) (w:World):Calls Tryz.prog 30 #[.string ⟨(jg q).toArray⟩] w fun e w'=>e = .returned (.bool (decide (q=0)))∧w=w':=by
 generalize hss:(⟨(jg q).toArray⟩:ByteArray)=s
 have hz:(s.toList==[48])=decide (q=0):=by
  rw[ByteArray.toList_eq,←hss];by_cases h:q=0
  ·rw[decide_eq_true h,(JB q).2 h];rfl
  ·rw[decide_eq_false h]
   have:jg q≠[48]:=fun e=>h ((JB q).1 e)
   simpa using this
 generalize decide (q=0)=b at *;clear hss;go_enter Tryz.func30,Tryz.ntmps30
 go_wp2
 go_ret;exact⟨rfl,rfl⟩
end Go.Proofs.YtneafcdfnhnpnaaGreatDoor
namespace Go.Proofs.YtneafcdfnhnpnaaGreatDoor
theorem WP:JO jd (fun _=>True) (fun q:Rat=>q) where
 pz:=trivial
 z0:=rfl
 isZ:=fun a _=>by simp[jd]
 sub:=fun a b _ _=>⟨trivial,rfl⟩
 mul:=fun a b _ _=>⟨trivial,rfl⟩
 div:=fun a b _ _ _=>⟨trivial,by show a/b=a*b⁻¹;rw[Rat.div_def]⟩
section
variable {f:Nat→Rat→Rat} {L:List Rat} {k:Nat}
end
theorem Gy (x:Rat):x-0=x:=by rw[Rat.sub_eq_add_neg,Rat.neg_zero,Rat.add_zero]
def Bq (B:Nat) (q:Rat):Prop:=q.num.natAbs≤B∧q.den≤B
theorem Bq.mono {B C:Nat} {q:Rat} (h:Bq B q) (hb:B≤C):Bq C q:=⟨Nat.le_trans h.1 hb,Nat.le_trans h.2 hb⟩
theorem Bq.mul {B C:Nat} {p q:Rat} (hp:Bq B p) (hq:Bq C q):Bq (B*C) (p*q):=
 ⟨Nat.le_trans (V4 p q).1 (Nat.mul_le_mul hp.1 hq.1),Nat.le_trans (V4 p q).2 (Nat.mul_le_mul hp.2 hq.2)⟩
theorem Bq.neg {B:Nat} {p:Rat} (h:Bq B p):Bq B (-p):=⟨by rw[Rat.neg_num,Int.natAbs_neg];exact h.1,by rw[Rat.neg_den];exact h.2⟩
theorem Bq.sub {B C:Nat} {p q:Rat} (hp:Bq B p) (hq:Bq C q):Bq (2*(B*C)) (p-q):=by
 rw[Rat.sub_eq_add_neg];have h:=EJ p (-q);have hn:=hq.neg;refine⟨Nat.le_trans h.1 ?_,Nat.le_trans h.2 ?_⟩
 ·have a:=Nat.mul_le_mul hp.1 hn.2
  have b:=Nat.mul_le_mul hn.1 hp.2;rw[Nat.mul_comm C B] at b;omega
 ·have a:=Nat.mul_le_mul hp.2 hn.2
  omega
theorem Vz (q:Rat) (h0:q≠0):q⁻¹.num.natAbs≤q.den∧q⁻¹.den≤q.num.natAbs:=by
 have hn:q.num≠0:=fun h=>h0 (Rat.num_eq_zero.1 h)
 rw[YO];by_cases h1:q.num<0
 ·have e:((q.den:Int):Rat)/((q.num:Int):Rat)=mkRat (-(q.den:Int)) q.num.natAbs:=by
   have e:q.num = -((q.num.natAbs:Nat):Int):=by omega
   rw[←Jb]
   conv=>lhs;rw[e]
   rw[Rat.intCast_neg,Rat.intCast_neg,Rat.div_def,Rat.div_def,Zt,Rat.mul_neg,Rat.neg_mul]
  rw[e];have:=J6 (-(q.den:Int)) q.num.natAbs (by omega);rw[Int.natAbs_neg,Int.natAbs_natCast] at this;exact this
 ·have e:((q.den:Int):Rat)/((q.num:Int):Rat)=mkRat (q.den:Int) q.num.natAbs:=by
   have e:q.num=((q.num.natAbs:Nat):Int):=by omega
   rw[←Jb,←e]
  rw[e];have:=J6 (q.den:Int) q.num.natAbs (by omega);rw[Int.natAbs_natCast] at this;exact this
theorem Bq.inv {B:Nat} {p:Rat} (h:Bq B p) (h0:p≠0):Bq B p⁻¹:=⟨Nat.le_trans (Vz p h0).1 h.2,Nat.le_trans (Vz p h0).2 h.1⟩
theorem Bq.zero {B:Nat} (hB:2≤B):Bq B 0:=⟨by show 0≤B;omega,by show 1≤B;omega⟩
theorem Bq.at {B:Nat} (hB:2≤B) {L:List Rat} (h:∀x∈L,Bq B x) (k:Nat):Bq B (L[k]?.getD 0):=by
 rcases Nat.lt_or_ge k L.length with h1 | h1
 ·rw[List.getElem?_eq_getElem h1];exact h _ (List.getElem_mem h1)
 ·rw[List.getElem?_eq_none h1];exact Bq.zero hB
theorem Bq.bigH {B:Nat} {q:Rat} (h:Bq B q) (hB:B<B9^jS):qi q:=⟨Nat.lt_of_le_of_lt h.1 hB,Nat.lt_of_le_of_lt h.2 hB⟩
theorem yg {B:Nat} (hB:2≤B) {a b:Nat} (h:a≤b):B^a≤B^b:=Nat.pow_le_pow_right (by omega) h
theorem UX {B:Nat} (hB:2≤B) {d:Rat} (hd:Bq B d) (h0:d≠0) {o:Nat} {L:List Rat} (h:∀x∈L,Bq B x):∀x∈kf jd d o L,Bq (B*B) x:=by
 intro x hx;unfold kf at hx;obtain⟨i,hi,rfl⟩:=List.mem_mapIdx.1 hx;have hm:=h _ (List.getElem_mem hi);have hw:Bq (B*B) L[i]:=hm.mono (Nat.le_mul_of_pos_left B (by omega));split
 ·split
  ·exact hw
  ·show Bq (B*B) (L[i]/d)
   rw[Rat.div_def];exact hm.mul (hd.inv h0)
 ·exact hw
theorem R5 {B:Nat} (hB:2≤B) {o:Nat} {L P:List Rat} (h:∀x∈L,Bq B x) (hP:∀x∈P,Bq (B*B) x):∀x∈kX jd o L P,Bq (B^5) x:=by
 have h5:B≤B^5:=by have:=yg hB (show 1≤5 by decide);rwa [Nat.pow_one] at this
 intro x hx;unfold kX at hx;split at hx
 ·exact(h x hx).mono h5
 ·obtain⟨i,hi,rfl⟩:=List.mem_mapIdx.1 hx
  have hm:=h _ (List.getElem_mem hi);split
  ·split
   ·exact hm.mono h5
   ·show Bq (B^5) (L[i]-(L[o]?.getD 0)*(P[i]?.getD 0))
    have hp2:2≤B*B:=Nat.le_trans hB (Nat.le_mul_of_pos_left B (by omega));have hb:=hm.sub ((Bq.at hB h o).mul (Bq.at hp2 hP i));refine hb.mono ?_
    have e:B^5=B*(B*(B*(B*B))):=by simp only[Nat.pow_succ,Nat.pow_zero,Nat.one_mul];simp only[Nat.mul_assoc]
    rw[e];exact Nat.mul_le_mul_right _ hB
  ·exact hm.mono h5
theorem GV {B:Nat} (hB:2≤B) {S:jz Rat} {row col:Nat} (h:∀r∈S.rows,∀x∈r.2.2,Bq B x) (hd:elPiv jd row col S≠0):∀r∈(jU jd row col S).rows,∀x∈r.2.2,Bq (B^5) x:=by
 have hsw:∀r∈jX row S,∀x∈r.2.2,Bq B x:=by
  intro r hr;unfold jX at hr;split at hr
  ·exact h r hr
  ·exact h r (Kl hr)
 have hrow:∀i,∀x∈jG (jX row S) i,Bq B x:=by
  intro i x hx;unfold jG at hx
  cases e:(jX row S)[i]? with
  | none=>rw[e] at hx;cases hx
  | some r=>rw[e] at hx;exact hsw r (List.mem_of_getElem? e) x hx
 have hdq:Bq B (elPiv jd row col S):=Bq.at hB (hrow _) col;have hdr:=UX hB hdq hd (o:=col) (hrow S.cols.length)
 have hP:∀x∈jG (elDiv jd row col S) S.cols.length,Bq (B*B) x:=by
  intro x hx;unfold jG elDiv at hx
  cases e:(jX row S)[S.cols.length]? with
  | none=>simp[setRow,e] at hx
  | some r=>rw[qA e] at hx;exact hdr x hx
 have h25:B*B≤B^5:=by have:=yg hB (show 2≤5 by decide);rwa [Nat.pow_two] at this
 intro r hr x hx;obtain⟨i,hi⟩:=List.mem_iff_getElem?.1 hr;have hi':(ke jd S.cols.length col (jG (elDiv jd row col S) S.cols.length) (elDiv jd row col S) (elDiv jd row col S).length)[i]? =some r:=hi;unfold ke at hi';rw[List.getElem?_mapIdx] at hi'
 cases e:(elDiv jd row col S)[i]? with
 | none=>rw[e] at hi';cases hi'
 | some r0=>
  rw[e] at hi';have hi':=Option.some.inj hi';dsimp only at hi';by_cases hq:i=S.cols.length
  ·rw[if_neg (by omega)] at hi'
   subst hi';refine(hP x ?_).mono h25;rw[←hq,kW e];exact hx
  ·have hr0:∀y∈r0.2.2,Bq B y:=by
    unfold elDiv at e;rw[xA (fun h=>hq h.symm)] at e;exact hsw r0 (List.mem_of_getElem? e)
   split at hi'
   ·subst hi'
    exact R5 hB hr0 hP x hx
   ·subst hi'
    exact(hr0 x hx).mono (Nat.le_trans (Nat.le_mul_of_pos_left B (by omega)) h25)
end Go.Proofs.YtneafcdfnhnpnaaGreatDoor
namespace Go.Proofs.YtneafcdfnhnpnaaGreatDoor
open Go.RowKit
structure qu (n g cg:Nat) (R:List jr) (w1 wx:World) (C:List Nat) (Q:List jr) (cv:Value):Prop where
 mx:kL wx g cg Q n
 cown:wx.ownsRow w1.heap.size 3 1 cv C.length (jo C)
 len:Q.length=R.length
 perm:List.Perm (Q.map (·.1)) (R.map (·.1))
 lt:∀k,k=g∨k∈R.map (·.1)→k<w1.heap.size
 buts:jL (g::R.map (·.1)) w1 wx
section
variable {n g cg i j:Nat} {R Q:List jr} {w1 wx wy:World} {C:List Nat} {cv:Value}
theorem qu.below (h:qu n g cg R w1 wx C Q cv) (hb:Below wx.heap.size wx wy):qu n g cg R w1 wy C Q cv:=
 ⟨h.mx.below hb,kB h.cown hb,h.len,h.perm,h.lt,h.buts.below hb⟩
theorem qu.gb (h:qu n g cg R w1 wx C Q cv) {k:Nat} (hk:k=g∨k∈Q.map (·.1)):k<w1.heap.size:=h.lt k (hk.imp id fun x=>h.perm.mem_iff.1 x)
theorem qu.swap (h:qu n g cg R w1 wx C Q cv) {a b:jr} (hi:Q[i]? =some a) (hj:Q[j]? =some b):
  qu n g cg R w1 (((wx.setCell ⟨g,i,none⟩ (jZ n b)).setCell ⟨g,j,none⟩ (jZ n a)).drew) C (j9 Q i j) cv:=by
 have hg:=h.gb (k:=g) (.inl rfl);refine⟨(h.mx.swap hi hj).keep (fun _ _=>rfl),?_,by rw[Kk,h.len],((Km Q i j).map _).trans h.perm,h.lt,((h.buts.setCell _ (by simp) _).setCell _ (by simp) _).drew⟩;exact xy (xy h.cown ⟨g,i,none⟩ hg _) ⟨g,j,none⟩ hg _
theorem qu.setNum (h:qu n g cg R w1 wx C Q cv) {r:jr} (hr:Q[i]? =some r) (x:Rat):
  qu n g cg R w1 (wx.setCell ⟨r.1,j,none⟩ (xz x)) C (setRow Q i (r.2.2.set j x)) cv:=by
 have hm:=List.mem_of_getElem? hr;have hrb:r.1∈Q.map (·.1):=List.mem_map_of_mem hm;have hl:=h.gb (.inr hrb);exact⟨h.mx.setNum hr x,xy h.cown ⟨r.1,j,none⟩ hl _,by rw[JE];exact h.len,by rw[JD];exact h.perm,h.lt,h.buts.setCell _ (List.mem_cons_of_mem _ (h.perm.mem_iff.1 hrb)) _⟩
end
section
variable {B n g cg c i:Nat} {R:List jr} {w1 wr wf:World} {S:jz Rat} {cv cv':Value}
end
