/- Contracts of the reference: sums, products, quotients, comparisons of numbers. -/
import Derived.Test.YteagkgagdelklaaGreatDoorZT35
set_option maxRecDepth 100000
set_option maxHeartbeats 4000000
namespace Go.Proofs.YteagkgagdelklaaGreatDoor
open Go.RowKit Go.Lib
@[irreducible] def jW:Nat:=400000
theorem Qy:jW+jW+1≤xN:=by unfold jW xN;decide
def qA (q:Rat):Prop:=q.num.natAbs<B9^jW∧q.den<B9^jW
theorem xY {x:Nat} (h:x<B9^jW):jQ x:=Qac h (Qai (by decide) (by have:=Qy;omega))
theorem ZQ {a b:Nat} (ha:a<B9^jW) (hb:b<B9^jW):a*b<B9^(jW+jW):=by
 rw[Qbj];exact Qcc ha hb
theorem QC {a b:Nat} (ha:a<B9^jW) (hb:b<B9^jW):jQ (a*b):=Qac (ZQ ha hb) (Qai (by decide) (by have:=Qy;omega))
theorem SF {a b:Nat} (ha:a<B9^(jW+jW)) (hb:b<B9^(jW+jW)):jQ (a+b):=by
 have h1:B9^(jW+jW+1)≤B9^xN:=Qai (by decide) Qy;have h2:B9^(jW+jW)*2≤B9^(jW+jW)*B9:=Qan _ (by decide);rw[QaD] at h1;unfold jQ;omega
theorem qA.digits {x:Nat} (h:x<B9^jW):(decDigits x).length≤9000000:=by
 rw[decDigits_length]
 have h2:B9^jW=10^(9*jW):=by rw[QbY]
 have h3:10^(9*jW)≤10^(9*jW+1):=Qai (by decide) (by omega);have h4:=J9 (9*jW) x (by rw[h2] at h;omega);have h5:=Qy;have:=XZ;omega
theorem qA.bigD {q:Rat} (h:qA q):zp q:=⟨qA.digits h.1,qA.digits h.2⟩
theorem Rn (p q:Rat) (w:World) (hp:qA p) (hq:qA q):
  Calls Tryz.prog 139 #[.string ⟨(jh p).toArray⟩,.string ⟨(jh q).toArray⟩] w (qh (jh (p+q)) w):=by
 by_cases hs:qC p∧qC q
 ·exact Rq p q w hs.1 hs.2
 ·have m1:=ZQ hp.1 hq.2
  have m2:=ZQ hq.1 hp.2
  refine Rp _ _ _ (decide (qC p)) (decide (qC q)) ?_ (p.num*q.den) (q.num*p.den) (p.num*q.den+q.num*p.den) ((p.den:Int)*q.den) p.num q.num p.den q.den w (hid fun W=>Yi p W) (hid fun W=>Yi q W) (hid fun W=>QL p W hp.bigD) (hid fun W=>QL q W hq.bigD)
   (hid fun W a b ha hb=>QR a b _ _ W ha hb (xY hp.1) (by rw[QaO];exact xY hq.2)) (hid fun W a b ha hb=>QR a b _ _ W ha hb (xY hq.1) (by rw[QaO];exact xY hp.2))
   (hid fun W a b ha hb=>LP a b _ _ W ha hb (by rw[QbB,QaO];exact QC hp.1 hq.2) (by rw[QbB,QaO];exact QC hq.1 hp.2))
   (hid fun W a b ha hb=>QR a b _ _ W ha hb (by rw[QaO];exact xY hp.2) (by rw[QaO];exact xY hq.2))
   (hid fun W a b ha hb=> ?_)
  ·by_cases h1:qC p
   ·have h2:¬qC q:=fun h=>hs ⟨h1,h⟩
    rw[Qat h2,Bool.and_false]
   ·rw[Qat h1,Bool.false_and]
  ·rw[←QaM] at hb
   have hle:(p.num*(q.den:Int)+q.num*(p.den:Int)).natAbs≤p.num.natAbs*q.den+q.num.natAbs*p.den:=by
    have:=Int.natAbs_add_le (p.num*(q.den:Int)) (q.num*(p.den:Int));rw[QbB,QbB,QaO,QaO] at this;exact this
   have h:=Zy a b _ _ W ha hb (Nat.mul_pos p.den_pos q.den_pos) ((SF m1 m2).le hle) (QC hp.2 hq.2);rw[KV,←Rat.add_def'] at h;exact h
theorem U6 (p q:Rat) (w:World) (hp:qA p) (hq:qA q):
  Calls Tryz.prog 93 #[.string ⟨(jh p).toArray⟩,.string ⟨(jh q).toArray⟩] w (qh (jh (p*q)) w):=by
 by_cases hs:qC p∧qC q
 ·exact RU p q w hs.1 hs.2
 ·refine RT _ _ _ (decide (qC p)) (decide (qC q)) ?_ (p.num*q.num) ((p.den:Int)*q.den) p.num q.num p.den q.den w (hid fun W=>Yi p W) (hid fun W=>Yi q W) (hid fun W=>QL p W hp.bigD) (hid fun W=>QL q W hq.bigD)
   (hid fun W a b ha hb=>QR a b _ _ W ha hb (xY hp.1) (xY hq.1))
   (hid fun W a b ha hb=>QR a b _ _ W ha hb (by rw[QaO];exact xY hp.2) (by rw[QaO];exact xY hq.2))
   (hid fun W a b ha hb=> ?_)
  ·by_cases h1:qC p
   ·have h2:¬qC q:=fun h=>hs ⟨h1,h⟩
    rw[Qat h2,Bool.and_false]
   ·rw[Qat h1,Bool.false_and]
  ·rw[←QaM] at hb
   have h:=Zy a b _ _ W ha hb (Nat.mul_pos p.den_pos q.den_pos) (by rw[QbB];exact QC hp.1 hq.1) (QC hp.2 hq.2);rw[KV,←Rat.mul_def'] at h;exact h
theorem Nq {n:Nat} (h:decDigits n=[48]):n=0:=by
 have:=congrArg jf h;rw[Jy] at this;exact this
theorem M7:jh 0=[48]:=by unfold jh;rw[if_neg (by decide),if_pos (by decide)];exact(by rw[Qbe,Qbg];exact decDigits_one (by decide))
theorem zO (q:Rat):jh q=[48]↔q=0:=by
 constructor
 ·intro h
  have h1:=congrArg List.length h;have hl:=z8 q.num.natAbs;unfold jh at h h1;by_cases hn:q.num<0
  ·rw[if_pos hn,Qaf,Qaf] at h1
   simp only[QaR,QbA] at h1;omega
  ·rw[if_neg hn] at h h1
   by_cases hd:q.den=1
   ·rw[if_pos hd] at h
    have h3:q.num.natAbs=0:=Nq (by simpa using h);exact Rat.num_eq_zero.1 (by omega)
   ·rw[if_neg hd,Qaf,Qaf] at h1
    simp only[QaR,QbA] at h1;omega
 ·rintro rfl;exact M7
theorem JL (q:Rat):(jh q)[0]? =some 45↔q.num<0:=by
 unfold jh;by_cases h:q.num<0
 ·rw[if_pos h];simp[h]
 ·rw[if_neg h,Qbe,QaB (z8 _)]
  constructor
  ·intro h2
   have:=xr q.num.natAbs 45 (Qab h2);exact absurd this.1 (by decide)
  ·intro h2;exact absurd h2 h
theorem Yw (q:Rat):qr (jh q)=qS q:=by
 unfold qr;by_cases h0:q=0
 ·rw[if_pos ((zO q).2 h0)];subst h0;rfl
 ·rw[if_neg (fun h=>h0 ((zO q).1 h))]
  have hn:q.num≠0:=fun h=>h0 (Rat.num_eq_zero.1 h)
  by_cases h1:q.num<0
  ·rw[if_pos ((JL q).2 h1)];unfold qS;simp[hn,h1]
  ·rw[if_neg (fun h=>h1 ((JL q).1 h))];unfold qS;simp[hn,h1]
theorem M6 (q:Rat):jh (-q)=if q.num<0 then (jh q).drop 1 else if q=0 then jh q else 45::jh q:=by
 have hn:(-q).num = -q.num:=Rat.neg_num q;have hd:(-q).den=q.den:=Rat.neg_den q;by_cases h:q.num<0
 ·rw[if_pos h]
  unfold jh;rw[hn,hd,if_neg (by omega),if_pos h,Qb4]
  simp
 ·rw[if_neg h]
  by_cases h0:q=0
  ·rw[if_pos h0];subst h0;rfl
  ·rw[if_neg h0]
   have hne:q.num≠0:=fun h=>h0 (Rat.num_eq_zero.1 h)
   unfold jh;rw[hn,hd,if_pos (by omega),if_neg h,Qb4]
   simp
theorem Uz (q:Rat) (h:zp q):(jh q).length≤4000000000000000000:=by
 obtain⟨h1,h2⟩:=h;unfold jh;rw[Qaf,Qaf]
 split <;> split <;> simp <;> omega
theorem R0 (q:Rat) (w:World) (h:zp q):Calls Tryz.prog 44 #[.string ⟨(jh q).toArray⟩] w (qh (jh (-q)) w):=by
 have hl:=Uz q h;have SG:=hid (fun W=>Ut (jh q) W hl);rw[Yw] at SG;have HN:=hid (M6 q);generalize hss:(⟨(jh q).toArray⟩:ByteArray)=s at *
 have hs:s.data.toList=jh q:=by rw[←hss]
 have hz:=kG hs;have HSS:=hid hss;clear hss
 have hr:qS q=if q.num<0 then -1 else if q=0 then 0 else 1:=by
  rw[←Yw];unfold qr;by_cases h1:q.num<0
  ·rw[if_pos h1,if_neg (fun h=>by have:=(zO q).1 h;subst this;exact absurd h1 (by decide)),if_pos ((JL q).2 h1)]
  ·rw[if_neg h1]
   by_cases h0:q=0
   ·rw[if_pos h0,if_pos ((zO q).2 h0)]
   ·rw[if_neg h0,if_neg (fun h=>h0 ((zO q).1 h)),if_neg (fun h=>h1 ((JL q).1 h))]
 by_cases h1:q.num<0
 ·rw[if_pos h1] at hr
  rw[hr] at SG
  have hz1:(1:Int)≤(s.size:Int):=by
   have:=(JL q).2 h1;rw[List.getElem?_eq_some_iff] at this;obtain⟨h2,_⟩:=this;omega
  have HE:Hid (s.extract 1 s.size=⟨(jh (-q)).toArray⟩):=hid (by
   rw[QX (s.extract 1 s.size),xK hs,HN.out,if_pos h1,hz,Qad (Nat.le_refl _)])
  clear hr h1 hs hz HN;go_enter Tryz.func44,Tryz.ntmps44
  go_wp2_with fail
  refine(SG.out _).mono ?_;rintro e w1 ⟨rfl,rfl⟩
  go_wp2
  go_ret;exact⟨by rw[←HE.out];rfl,Below.refl _ _⟩
 ·rw[if_neg h1] at hr
  by_cases h0:q=0
  ·rw[if_pos h0] at hr
   rw[hr] at SG;have HE:Hid (s=⟨(jh (-q)).toArray⟩):=hid (by rw[←HSS.out,HN.out,if_neg h1,if_pos h0]);clear hr h1 hs hz HN h0;go_enter Tryz.func44,Tryz.ntmps44
   go_wp2_with fail
   refine(SG.out _).mono ?_;rintro e w1 ⟨rfl,rfl⟩
   go_wp2_with fail
   refine(SG.out _).mono ?_;rintro e w1 ⟨rfl,rfl⟩
   go_wp2
   go_ret;exact⟨by rw[←HE.out];rfl,Below.refl _ _⟩
  ·rw[if_neg h0] at hr
   rw[hr] at SG;have HE:Hid ((ByteArray.mk #[45]:ByteArray)++s=⟨(jh (-q)).toArray⟩):=hid (by rw[←HSS.out,HN.out,if_neg h1,if_neg h0,KF])
   have hzI:(s.size:Int)≤4000000000000000000:=by omega
   clear hr h1 hs hz HN h0;go_enter Tryz.func44,Tryz.ntmps44
   go_wp2_with fail
   refine(SG.out _).mono ?_;rintro e w1 ⟨rfl,rfl⟩
   go_wp2_with fail
   refine(SG.out _).mono ?_;rintro e w1 ⟨rfl,rfl⟩
   go_wp2
   go_ret;exact⟨by rw[←HE.out];rfl,Below.refl _ _⟩
theorem qA.neg {q:Rat} (h:qA q):qA (-q):=by
 unfold qA;rw[Rat.neg_num,Rat.neg_den,Qb4];exact h
theorem Se (p q:Rat) (w:World) (hp:qA p) (hq:qA q):
  Calls Tryz.prog 94 #[.string ⟨(jh p).toArray⟩,.string ⟨(jh q).toArray⟩] w (qh (jh (p-q)) w):=by
 have NG:=hid (fun W=>R0 q W hq.bigD);have AD:=hid (fun W=>Rn p (-q) W hp hq.neg);rw[←Rat.sub_eq_add_neg] at AD;generalize (⟨(jh p).toArray⟩:ByteArray)=s at *;generalize (⟨(jh q).toArray⟩:ByteArray)=t at *;go_enter Tryz.func94,Tryz.ntmps94
 go_wp2_with fail
 refine(NG.out _).mono ?_;rintro e w1 ⟨rfl,hB1⟩
 go_wp2_with fail
 refine(AD.out _).mono ?_;rintro e w2 ⟨rfl,hB2⟩
 go_wp2
 go_ret;exact⟨rfl,hB1.trans (hB2.mono hB1.size)⟩
theorem X9 (a:Int) (d:Nat) (hd:d≠0):(mkRat a d).num.natAbs≤a.natAbs∧(mkRat a d).den≤d:=by
 obtain⟨m,hm,h1,h2⟩:=Rat.mkRat_num_den hd (rfl:mkRat a d=⟨(mkRat a d).num,(mkRat a d).den,(mkRat a d).den_nz,(mkRat a d).reduced⟩);constructor
 ·conv=>rhs;rw[h1]
  rw[QbB,QaO];exact QbI _ (by omega)
 ·conv=>rhs;rw[h2]
  exact QbI _ (by omega)
theorem SK (p q:Rat):(p+q).num.natAbs≤p.num.natAbs*q.den+q.num.natAbs*p.den∧(p+q).den≤p.den*q.den:=by
 rw[Rat.add_def'];obtain⟨h1,h2⟩:=X9 (p.num*(q.den:Int)+q.num*(p.den:Int)) (p.den*q.den) (Nat.mul_ne_zero p.den_nz q.den_nz);refine⟨Qap h1 ?_,h2⟩;have:=Int.natAbs_add_le (p.num*(q.den:Int)) (q.num*(p.den:Int));rw[QbB,QbB,QaO,QaO] at this;exact this
theorem Gp (p q:Rat):(p*q).num.natAbs≤p.num.natAbs*q.num.natAbs∧(p*q).den≤p.den*q.den:=by
 rw[Rat.mul_def'];obtain⟨h1,h2⟩:=X9 (p.num*q.num) (p.den*q.den) (Nat.mul_ne_zero p.den_nz q.den_nz);rw[QbB] at h1;exact⟨h1,h2⟩
theorem Me (x:Rat):(-x)⁻¹ = -x⁻¹:=by
 by_cases h:x=0
 ·subst h;simp
 ·exact Rat.inv_eq_of_mul_eq_one (by rw[Rat.mul_neg,Rat.neg_mul,Rat.neg_neg,Rat.mul_inv_cancel _ h])
theorem Wy (q:Rat):q⁻¹=((q.den:Int):Rat)/((q.num:Int):Rat):=by
 rw[←Rat.divInt_eq_div]
 conv=>lhs;rw[←Rat.mkRat_self q,←Rat.divInt_ofNat,Rat.inv_divInt]
theorem Sb (s:ByteArray) (l:List UInt8) (x y:Int) (w:World) (PA:Hid (∀W,Calls Tryz.prog 120 #[.string s] W (ya x y W)))
  (FR:Hid (∀W a b,Ri W a y→Ri W b x→Calls Tryz.prog 135 #[a,b] W (qh l W))):
  Calls Tryz.prog 92 #[.string s] w (qh l w):=by
 go_enter Tryz.func92,Tryz.ntmps92
 go_wp2_with fail
 refine(PA.out _).mono ?_;rintro e w1 ⟨vp,vq,rfl,rp,rq,hB1⟩;obtain⟨Ap,np,cp,rfl,_,_⟩:=rp.open_;obtain⟨Aq,nq_,cq,rfl,_,_⟩:=rq.open_;generalize decide (x<0)=bp at *;generalize decide (y<0)=bq at *;obtain⟨W1,hW1,hBW1,hz1,o1,o2,rp1,rq1⟩:=Jk rp rq
 go_upto_region 2 with fail
 rw[←hW1];have HB1:=hid (hB1.trans (hBW1.mono hB1.size));have HF:=hid (FR.out W1 _ _ rq1 rp1);obtain⟨a0,a1⟩:=o1.cell2;obtain⟨b0,b1⟩:=o2.cell2;clear hW1 hBW1 hz1 o1 o2 rp1 rq1 rp rq hB1 FR PA
 go_wp2_with fail
 refine HF.out.mono ?_;rintro e w2 ⟨rfl,hB2⟩;have HBF:=hid (HB1.out.trans (hB2.mono HB1.out.size));clear hB2 HF
 go_wp2
 go_ret;exact⟨rfl,HBF.out⟩
theorem Sa (q:Rat) (w:World) (hq:qA q) (h0:q≠0):
  Calls Tryz.prog 92 #[.string ⟨(jh q).toArray⟩] w (qh (jh q⁻¹) w):=by
 have hn:q.num≠0:=fun h=>h0 (Rat.num_eq_zero.1 h)
 refine Sb _ _ q.num q.den w (hid fun W=>QL q W hq.bigD) (hid fun W a b ha hb=> ?_);rw[Wy];by_cases h1:q.num<0
 ·have e:q.num = -((q.num.natAbs:Nat):Int):=by omega
  have h:=DZ a b (-(q.den:Int)) q.num.natAbs W (by rw[Int.neg_neg];exact ha) (by rw[←e];exact hb) (by omega) (by rw[Qb4,QaO];exact xY hq.2) (xY hq.1)
  have e2:(((-(q.den:Int):Int)):Rat)/(((q.num.natAbs:Nat):Int):Rat)=((q.den:Int):Rat)/((q.num:Int):Rat):=by
   conv=>rhs;rw[e]
   rw[Rat.intCast_neg,Rat.intCast_neg,Rat.div_def,Rat.div_def,Me,Rat.mul_neg,Rat.neg_mul]
  rw[e2] at h;exact h
 ·have e:q.num=((q.num.natAbs:Nat):Int):=by omega
  have h:=Zy a b (q.den:Int) q.num.natAbs W ha (by rw[←e];exact hb) (by omega) (by rw[QaO];exact xY hq.2) (xY hq.1);rw[←e] at h;exact h
theorem U3 (q:Rat) (w:World):Calls Tryz.prog 91 #[.string ⟨(jh q).toArray⟩] w fun e w'=>e = .returned (.bool (decide (q=0)))∧w=w':=by
 generalize hss:(⟨(jh q).toArray⟩:ByteArray)=s
 have hz:(s.toList==[48])=decide (q=0):=by
  rw[ByteArray.toList_eq,←hss];by_cases h:q=0
  ·rw[QaK h,(zO q).2 h];rfl
  ·rw[Qat h]
   have:jh q≠[48]:=fun e=>h ((zO q).1 e)
   simpa using this
 generalize decide (q=0)=b at *;clear hss;go_enter Tryz.func91,Tryz.ntmps91
 go_wp2
 go_ret;exact⟨rfl,rfl⟩
end Go.Proofs.YteagkgagdelklaaGreatDoor
namespace Go.Proofs.YteagkgagdelklaaGreatDoor
theorem QP:yz jc (fun _=>True) (fun q:Rat=>q) where
 pz:=trivial
 z0:=rfl
 isZ:=fun a _=>by simp[jc]
 sub:=fun a b _ _=>⟨trivial,rfl⟩
 mul:=fun a b _ _=>⟨trivial,rfl⟩
 div:=fun a b _ _ _=>⟨trivial,by show a/b=a*b⁻¹;rw[Rat.div_def]⟩
def qM (f:Nat→Rat→Rat) (L:List Rat) (k:Nat):List Rat:=L.mapIdx fun j x=>if j<k then f j x else x
section
variable {f:Nat→Rat→Rat} {L:List Rat} {k:Nat}
theorem EN:qM f L 0=L:=by
 apply Qaw;intro j;simp only[qM,Qaj,Nat.not_lt_zero,Qcf];cases L[j]? <;> rfl
theorem PG:(qM f L k).length=L.length:=by simp[qM]
theorem EK:(qM f L k)[k]? =L[k]? :=by
 simp only[qM,Qaj,Qb8,Qcf];cases L[k]? <;> rfl
theorem EM (hk:k<L.length):(qM f L k).set k (f k (L[k]?.getD 0))=qM f L (k+1):=by
 apply Qaw;intro j;by_cases hj:k=j
 ·subst hj
  rw[QaS (by rw[PG];exact hk)];simp only[qM,Qaj,Qaa hk,QaC,Qbl,QaT];rw[if_pos (by omega)]
 ·rw[Qbq hj]
  simp only[qM,Qaj]
  cases L[j]? with
  | none=>rfl
  | some x=>
   simp only[QaC,QaT];by_cases h:j<k
   ·rw[if_pos h,if_pos (by omega)]
   ·rw[if_neg h,if_neg (by omega)]
theorem EJ:qM f L L.length=L.mapIdx f:=by
 apply Qaw;intro j;simp only[qM,Qaj];rcases Qae j L.length with h | h
 ·rw[Qaa h];simp[h]
 ·rw[Qah h];rfl
end
theorem Ie {L:List Rat} {c j:Nat} (hj:j<L.length) (h:j<c) (h0:∀k,k<c→L[k]?.getD 0=0):L[j]=0:=by
 have:=h0 j h
 rwa [Qaa hj,Qbl] at this
theorem Cj {d:Rat} {c:Nat} {L:List Rat} (h0:∀k,k<c→L[k]?.getD 0=0):(L.mapIdx fun _ x=>x*d⁻¹)=j3 jc d c L:=by
 unfold j3;apply Qaw;intro j;simp only[Qaj];rcases Qae j L.length with hl | hl
 ·rw[Qaa hl]
  simp only[QaC,QaT]
  have hi:(jc.isZ L[j]=true)=(L[j]=0):=by simp[jc]
  have hd:jc.div L[j] d=L[j]*d⁻¹:=by show L[j]/d=_;rw[Rat.div_def]
  simp only[hi,hd];by_cases h2:c≤j
  ·rw[if_pos h2]
   by_cases h3:L[j]=0
   ·rw[if_pos h3,h3,Rat.zero_mul]
   ·rw[if_neg h3]
  ·rw[if_neg h2,Ie hl (by omega) h0,Rat.zero_mul]
 ·rw[Qah hl];rfl
theorem NT {d:Rat} {c:Nat} {L:List Rat} (h0:∀k,k<c→L[k]?.getD 0=0):∀k,k<c→(j3 jc d c L)[k]?.getD 0=0:=by
 intro k hk;have h:=h0 k hk;unfold j3;rw[Qaj]
 cases hL:L[k]? with
 | none=>rfl
 | some x=>
  rw[hL] at h;simp only[QaC,Qbl] at h ⊢;rw[if_neg (by omega)];exact h
theorem Ux (x:Rat):x-0=x:=by rw[Rat.sub_eq_add_neg,Rat.neg_zero,Rat.add_zero]
theorem T5 {t:Rat} {c:Nat} {L P:List Rat} (h0:∀k,k<c→P[k]?.getD 0=0) (ht:t=L[c]?.getD 0):(L.mapIdx fun j x=>x-t*(P[j]?.getD 0))=kY jc c L P:=by
 have hz:jc.z=0:=rfl
 have hi:∀x,(jc.isZ x=true)=(x=0):=fun x=>by simp[jc]
 have hs:∀y a b:Rat,jc.sub y (jc.mul a b)=y-a*b:=fun _ _ _=>rfl
 unfold kY;simp only[hz,hi,hs,←ht];split
 ·rename_i h
  subst h;apply Qaw;intro j;simp only[Qaj];rcases Qae j L.length with hl | hl
  ·rw[Qaa hl]
   simp only[QaC,QaT];rw[Rat.zero_mul,Ux]
  ·rw[Qah hl];rfl
 ·apply Qaw
  intro j;simp only[Qaj];rcases Qae j L.length with hl | hl
  ·rw[Qaa hl]
   simp only[QaC,QaT];by_cases h2:c≤j
   ·rw[if_pos h2]
    by_cases h3:P[j]?.getD 0=0
    ·rw[if_pos h3,h3,Rat.mul_zero,Ux]
    ·rw[if_neg h3]
   ·rw[if_neg h2,h0 j (by omega),Rat.mul_zero,Ux]
  ·rw[Qah hl];rfl
def Bq (B:Nat) (q:Rat):Prop:=q.num.natAbs≤B∧q.den≤B
theorem Bq.mono {B C:Nat} {q:Rat} (h:Bq B q) (hb:B≤C):Bq C q:=⟨Qap h.1 hb,Qap h.2 hb⟩
theorem Bq.mul {B C:Nat} {p q:Rat} (hp:Bq B p) (hq:Bq C q):Bq (B*C) (p*q):=
 ⟨Qap (Gp p q).1 (Qbh hp.1 hq.1),Qap (Gp p q).2 (Qbh hp.2 hq.2)⟩
theorem Bq.neg {B:Nat} {p:Rat} (h:Bq B p):Bq B (-p):=⟨by rw[Rat.neg_num,Qb4];exact h.1,by rw[Rat.neg_den];exact h.2⟩
theorem Bq.sub {B C:Nat} {p q:Rat} (hp:Bq B p) (hq:Bq C q):Bq (2*(B*C)) (p-q):=by
 rw[Rat.sub_eq_add_neg];have h:=SK p (-q);have hn:=hq.neg;refine⟨Qap h.1 ?_,Qap h.2 ?_⟩
 ·have a:=Qbh hp.1 hn.2
  have b:=Qbh hn.1 hp.2;rw[Qam C B] at b;omega
 ·have a:=Qbh hp.2 hn.2
  omega
theorem Wz (q:Rat) (h0:q≠0):q⁻¹.num.natAbs≤q.den∧q⁻¹.den≤q.num.natAbs:=by
 have hn:q.num≠0:=fun h=>h0 (Rat.num_eq_zero.1 h)
 rw[Wy];by_cases h1:q.num<0
 ·have e:((q.den:Int):Rat)/((q.num:Int):Rat)=mkRat (-(q.den:Int)) q.num.natAbs:=by
   have e:q.num = -((q.num.natAbs:Nat):Int):=by omega
   rw[←KV]
   conv=>lhs;rw[e]
   rw[Rat.intCast_neg,Rat.intCast_neg,Rat.div_def,Rat.div_def,Me,Rat.mul_neg,Rat.neg_mul]
  rw[e];have:=X9 (-(q.den:Int)) q.num.natAbs (by omega);rw[Qb4,QaO] at this;exact this
 ·have e:((q.den:Int):Rat)/((q.num:Int):Rat)=mkRat (q.den:Int) q.num.natAbs:=by
   have e:q.num=((q.num.natAbs:Nat):Int):=by omega
   rw[←KV,←e]
  rw[e];have:=X9 (q.den:Int) q.num.natAbs (by omega);rw[QaO] at this;exact this
theorem Bq.inv {B:Nat} {p:Rat} (h:Bq B p) (h0:p≠0):Bq B p⁻¹:=⟨Qap (Wz p h0).1 h.2,Qap (Wz p h0).2 h.1⟩
theorem Bq.zero {B:Nat} (hB:2≤B):Bq B 0:=⟨by show 0≤B;omega,by show 1≤B;omega⟩
theorem Bq.at {B:Nat} (hB:2≤B) {L:List Rat} (h:∀x∈L,Bq B x) (k:Nat):Bq B (L[k]?.getD 0):=by
 rcases Qae k L.length with h1 | h1
 ·rw[Qaa h1];exact h _ (Qay h1)
 ·rw[Qah h1];exact Bq.zero hB
theorem Bq.bigH {B:Nat} {q:Rat} (h:Bq B q) (hB:B<B9^jW):qA q:=⟨Qax h.1 hB,Qax h.2 hB⟩
theorem yM {B:Nat} (hB:2≤B) {a b:Nat} (h:a≤b):B^a≤B^b:=Qai (by omega) h
theorem Zg {B:Nat} (hB:2≤B) {d:Rat} (hd:Bq B d) (h0:d≠0) {o:Nat} {L:List Rat} (h:∀x∈L,Bq B x):∀x∈j3 jc d o L,Bq (B*B) x:=by
 intro x hx;unfold j3 at hx;obtain⟨i,hi,rfl⟩:=List.mem_mapIdx.1 hx;have hm:=h _ (Qay hi);have hw:Bq (B*B) L[i]:=hm.mono (Qbw B (by omega));split
 ·split
  ·exact hw
  ·show Bq (B*B) (L[i]/d)
   rw[Rat.div_def];exact hm.mul (hd.inv h0)
 ·exact hw
theorem T0 {B:Nat} (hB:2≤B) {o:Nat} {L P:List Rat} (h:∀x∈L,Bq B x) (hP:∀x∈P,Bq (B*B) x):∀x∈kY jc o L P,Bq (B^5) x:=by
 have h5:B≤B^5:=by have:=yM hB (show 1≤5 by decide);rwa [Qbc] at this
 intro x hx;unfold kY at hx;split at hx
 ·exact(h x hx).mono h5
 ·obtain⟨i,hi,rfl⟩:=List.mem_mapIdx.1 hx
  have hm:=h _ (Qay hi);split
  ·split
   ·exact hm.mono h5
   ·show Bq (B^5) (L[i]-(L[o]?.getD 0)*(P[i]?.getD 0))
    have hp2:2≤B*B:=Qap hB (Qbw B (by omega));have hb:=hm.sub ((Bq.at hB h o).mul (Bq.at hp2 hP i));refine hb.mono ?_
    have e:B^5=B*(B*(B*(B*B))):=by simp only[QaD,Qb0,Qbd];simp only[Qal]
    rw[e];exact Qas _ hB
  ·exact hm.mono h5
theorem Eh {B:Nat} (hB:2≤B) {S:jw Rat} {row col:Nat} (h:∀r∈S.rows,∀x∈r.2.2,Bq B x) (hd:elPiv jc row col S≠0):∀r∈(kg jc row col S).rows,∀x∈r.2.2,Bq (B^5) x:=by
 have hsw:∀r∈j8 row S,∀x∈r.2.2,Bq B x:=by
  intro r hr;unfold j8 at hr;split at hr
  ·exact h r hr
  ·exact h r (Ki hr)
 have hrow:∀i,∀x∈jL (j8 row S) i,Bq B x:=by
  intro i x hx;unfold jL at hx
  cases e:(j8 row S)[i]? with
  | none=>rw[e] at hx;cases hx
  | some r=>rw[e] at hx;exact hsw r (Qab e) x hx
 have hdq:Bq B (elPiv jc row col S):=Bq.at hB (hrow _) col;have hdr:=Zg hB hdq hd (o:=col) (hrow S.cols.length)
 have hP:∀x∈jL (elDiv jc row col S) S.cols.length,Bq (B*B) x:=by
  intro x hx;unfold jL elDiv at hx
  cases e:(j8 row S)[S.cols.length]? with
  | none=>simp[setRow,e] at hx
  | some r=>rw[qG e] at hx;exact hdr x hx
 have h25:B*B≤B^5:=by have:=yM hB (show 2≤5 by decide);rwa [Nat.pow_two] at this
 intro r hr x hx;obtain⟨i,hi⟩:=List.mem_iff_getElem?.1 hr;have hi':(jY jc S.cols.length col (jL (elDiv jc row col S) S.cols.length) (elDiv jc row col S) (elDiv jc row col S).length)[i]? =some r:=hi;unfold jY at hi';rw[Qaj] at hi'
 cases e:(elDiv jc row col S)[i]? with
 | none=>rw[e] at hi';cases hi'
 | some r0=>
  rw[e] at hi';have hi':=QaE hi';dsimp only at hi';by_cases hq:i=S.cols.length
  ·rw[if_neg (by omega)] at hi'
   subst hi';refine(hP x ?_).mono h25;rw[←hq,qF e];exact hx
  ·have hr0:∀y∈r0.2.2,Bq B y:=by
    unfold elDiv at e;rw[xQ (fun h=>hq h.symm)] at e;exact hsw r0 (Qab e)
   split at hi'
   ·subst hi'
    exact T0 hB hr0 hP x hx
   ·subst hi'
    exact(hr0 x hx).mono (Qap (Qbw B (by omega)) h25)
end Go.Proofs.YteagkgagdelklaaGreatDoor
namespace Go.Proofs.YteagkgagdelklaaGreatDoor
open Go.RowKit
structure qe (n g cg:Nat) (R:List js) (w1 wx:World) (C:List Nat) (Q:List js) (cv:Value):Prop where
 mx:kJ wx g cg Q n
 cown:wx.ownsRow w1.heap.size 3 1 cv C.length (jm C)
 len:Q.length=R.length
 perm:List.Perm (Q.map (·.1)) (R.map (·.1))
 lt:∀k,k=g∨k∈R.map (·.1)→k<w1.heap.size
 buts:jO (g::R.map (·.1)) w1 wx
section
variable {n g cg i j:Nat} {R Q:List js} {w1 wx wy:World} {C:List Nat} {cv:Value}
theorem qe.below (h:qe n g cg R w1 wx C Q cv) (hb:Below wx.heap.size wx wy):qe n g cg R w1 wy C Q cv:=
 ⟨h.mx.below hb,kD h.cown hb,h.len,h.perm,h.lt,h.buts.below hb⟩
theorem qe.gb (h:qe n g cg R w1 wx C Q cv) {k:Nat} (hk:k=g∨k∈Q.map (·.1)):k<w1.heap.size:=h.lt k (hk.imp id fun x=>h.perm.mem_iff.1 x)
theorem qe.swap (h:qe n g cg R w1 wx C Q cv) {a b:js} (hi:Q[i]? =some a) (hj:Q[j]? =some b):
  qe n g cg R w1 (((wx.setCell ⟨g,i,none⟩ (jV n b)).setCell ⟨g,j,none⟩ (jV n a)).drew) C (kU Q i j) cv:=by
 have hg:=h.gb (k:=g) (.inl rfl);refine⟨(h.mx.swap hi hj).keep (fun _ _=>rfl),?_,by rw[QZ,h.len],((K4 Q i j).map _).trans h.perm,h.lt,((h.buts.setCell _ (by simp) _).setCell _ (by simp) _).drew⟩;exact xP (xP h.cown ⟨g,i,none⟩ hg _) ⟨g,j,none⟩ hg _
theorem qe.setNum (h:qe n g cg R w1 wx C Q cv) {r:js} (hr:Q[i]? =some r) (x:Rat):
  qe n g cg R w1 (wx.setCell ⟨r.1,j,none⟩ (qx x)) C (setRow Q i (r.2.2.set j x)) cv:=by
 have hm:=Qab hr;have hrb:r.1∈Q.map (·.1):=Qa1 hm;have hl:=h.gb (.inr hrb);exact⟨h.mx.setNum hr x,xP h.cown ⟨r.1,j,none⟩ hl _,by rw[Ke];exact h.len,by rw[Kd];exact h.perm,h.lt,h.buts.setCell _ (QbU _ (h.perm.mem_iff.1 hrb)) _⟩
theorem qe.addCol (h:qe n g cg R w1 wx C Q cv) {o:Obj} {v5:Value} (hown:wy.ownsRow w1.heap.size 3 1 v5 (C.length+1) (jm C++[.int .i64 (j:Int)])) (hg:(wx.alloc o).grownBy wy cv.ownBlock):
  qe n g cg R w1 wy (C++[j]) Q v5:=by
 have ha:Below wx.heap.size wx (wx.alloc o):=(Below.refl _ _).alloc (Nat.le_refl _) _;have hm:=h.below ha
 have hcv:∀k,cv.ownBlock=some k→w1.heap.size≤k:=fun k hk=>(hm.cown.lt k hk).1
 refine⟨hm.mx.keep (fun k hk=> ?_),?_,h.len,h.perm,h.lt,hm.buts.grown hg (fun k hk=>hcv k hk)⟩
 ·have hk':=h.gb hk
  exact hg.block k (hm.mx.lt hk) (fun e=>by have:=hcv k e.symm;omega)
 ·rw[x7,Qaf];exact hown
end
structure zq (B n g cg:Nat) (R:List js) (w1 wr:World) (S:jw Rat) (c:Nat) (cv:Value):Prop where
 mid:qe n g cg R w1 wr S.cols S.rows cv
 hc:c≤n
 hq:S.cols.length≤R.length
 hqc:S.cols.length≤c
 rest:∀i,S.cols.length≤i→i<R.length → ∀k,k<c→xi S.rows i k=0
 go:jy jc n (R.length-S.cols.length) c S=jy jc n R.length 0 ⟨R,[],[],false⟩
 bd:∀r∈S.rows,∀x∈r.2.2,Bq (B^5^S.cols.length) x
section
variable {B n g cg c i:Nat} {R:List js} {w1 wr wf:World} {S:jw Rat} {cv cv':Value}
theorem zq.skip (h:zq B n g cg R w1 wr S c cv) (hc:c<n) (h0:∀t,S.cols.length≤t→t<R.length→xi S.rows t c=0):zq B n g cg R w1 wr S (c+1) cv:=by
 refine⟨h.mid,hc,h.hq,Nat.le_succ_of_le h.hqc,fun i h1 h2 k hk=> ?_,?_,h.bd⟩
 ·rcases Qae k c with h3 | h3
  ·exact h.rest i h1 h2 k h3
  ·have:k=c:=by omega
   subst this;exact h0 i h1 h2
 ·rw[←h.go,←Dl (fun t h1 h2=>by rw[zL,h0 t h1 (by rw[←h.mid.len];exact h2)];rfl) hc]
theorem zq.step (h:zq B n g cg R w1 wr S c cv) (hB:2≤B) (hi:S.cols.length≤i) (hi2:i<R.length) (hc:c<n) (hd:xi S.rows i c≠0) (h0:∀t,S.cols.length≤t→t<i→xi S.rows t c=0)
  (hm:qe n g cg R w1 wf (S.cols++[c]) (kg jc i c S).rows cv'):zq B n g cg R w1 wf (kg jc i c S) (c+1) cv':=by
 have hcl:(kg jc i c S).cols=S.cols++[c]:=rfl
 have hll:(kg jc i c S).cols.length=S.cols.length+1:=by rw[hcl];simp
 have hq2:S.cols.length<S.rows.length:=by rw[h.mid.len];omega
 have hpn:elPiv jc i c S≠0:=by
  have e:elPiv jc i c S=xi S.rows i c:=by
   unfold elPiv;rw[Zp (by rw[h.mid.len];exact hi2)]
   obtain⟨a,ha⟩:∃a,S.rows[i]? =some a:=⟨S.rows[i]'(by rw[h.mid.len];exact hi2),Qaa _⟩
   obtain⟨b,hb⟩:∃b,S.rows[S.cols.length]? =some b:=⟨S.rows[S.cols.length]'hq2,Qaa _⟩
   unfold jC;rw[qF (Q0 ha hb),QE ha];rfl
  rw[e];exact hd
 refine⟨hm,hc,by rw[hll];omega,by rw[hll];have:=h.hqc;omega,fun t h1 h2 k hk=> ?_,?_,?_⟩
 ·have hG:=h.mid.mx.good (P:=fun _=>True) (fun _ _ _ _=>trivial) h.mid.len
  have hd':jc.isZ (jC jc S.rows i c)=false:=by rw[zL];simpa using hd
  have:=Dp QP hG (by omega) hi hi2 hd' (fun t h3 h4 k hk=>by rw[zL,h.rest t h3 h4 k hk];rfl) t (by omega) h2 k hk;rw[zL] at this;simpa using this
 ·have hpv:kK jc S.rows S.cols.length (n-c) c=some (i,c):=
   Uf (n-c) c (Nat.le_refl _) (by omega) hi (by rw[h.mid.len];exact hi2) (by rw[zL];simpa using hd) (fun t h1 h2=>by rw[zL,h0 t h1 h2];rfl) (fun c' h1 h2=>by omega)
  rw[hll,←h.go,show R.length-S.cols.length=(R.length-(S.cols.length+1))+1 by omega,Zo hpv]
 ·have hb:2≤B^5^S.cols.length:=Qap hB (by have:=yM hB (show 1≤5^S.cols.length from Qcm _ _ (by decide));rwa [Qbc] at this)
  have:=Eh hb h.bd hpn;rw[hll,QaD,QbY];exact this
theorem zq.done (h:zq B n g cg R w1 wr S c cv) (hd:n≤c∨S.cols.length=R.length):S=jy jc n R.length 0 ⟨R,[],[],false⟩:=by
 rw[←h.go];rcases hd with h1 | h1
 ·exact(Wa h1).symm
 ·exact(V7 (by omega)).symm
end
def G6 (B:Nat) (M:List (List Rat)) (w:World) (e:Ending) (w':World):Prop:=
 Below w.heap.size w w' ∧ ∃(R:List js) (S:jw Rat) (v u:Value),R.map (·.2.2)=M∧S=jy jc ((M[0]?.map (·.length)).getD 0) R.length 0 ⟨R,[],[],false⟩∧e = .returned (.tuple #[v,u]) ∧
  yk w' v ((S.rows.take S.cols.length).map (·.2.2))∧jD w' u (jm S.cols)∧S.cols.length≤R.length∧S.cols.length≤(M[0]?.map (·.length)).getD 0 ∧ ∀r∈S.rows,∀x∈r.2.2,Bq (B^5^S.cols.length) x
