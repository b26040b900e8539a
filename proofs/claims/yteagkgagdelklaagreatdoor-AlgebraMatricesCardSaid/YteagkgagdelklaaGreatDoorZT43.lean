/- Contracts of the reference: Zeros, Echelon, Kernel. -/
import Derived.Test.YteagkgagdelklaaGreatDoorZT39
import Derived.Test.YteagkgagdelklaaGreatDoorZT41
set_option maxRecDepth 100000
set_option maxHeartbeats 8000000
namespace Go.Proofs.YteagkgagdelklaaGreatDoor
open Go.RowKit Go.Lib
theorem RZ (q:Rat) (w:World) (h:zp q):Calls Tryz.prog 44 #[.string ⟨(jh q).toArray⟩] w fun e w'=>e = .returned (.string ⟨(jh (-q)).toArray⟩)∧w'=w:=by
 have hl:=Uz q h;have SG:=hid (fun W=>Ut (jh q) W hl);rw[Yw] at SG;have HN:=hid (M6 q);generalize hss:(⟨(jh q).toArray⟩:ByteArray)=s at *
 have hs:s.data.toList=jh q:=by rw[←hss]
 have hz:=kG hs;have HSS:=hid hss;clear hss
 have hr:qS q=if q.num<0 then -1 else if q=0 then 0 else 1:=by
  rw[←Yw];unfold qr;by_cases h1:q.num<0
  ·rw[if_pos h1,if_neg (fun h=>by have:=(zO q).1 h;subst this;exact absurd h1 (by decide)),if_pos ((JL q).2 h1)]
  ·rw[if_neg h1]
   by_cases h0:q=0
   ·rw[if_pos h0,if_pos ((zO q).2 h0)]
   ·rw[if_neg h0,if_neg (fun h=>h0 ((zO q).1 h)),if_neg (fun h=>h1 ((JL q).1 h))]
 by_cases h1:q.num<0
 ·rw[if_pos h1] at hr
  rw[hr] at SG
  have hz1:(1:Int)≤(s.size:Int):=by
   have:=(JL q).2 h1;rw[List.getElem?_eq_some_iff] at this;obtain⟨h2,_⟩:=this;omega
  have HE:Hid (s.extract 1 s.size=⟨(jh (-q)).toArray⟩):=hid (by
   rw[QX (s.extract 1 s.size),xK hs,HN.out,if_pos h1,hz,Qad (Nat.le_refl _)])
  clear hr h1 hs hz HN;go_enter Tryz.func44,Tryz.ntmps44
  go_wp2_with fail
  refine(SG.out _).mono ?_;rintro e w1 ⟨rfl,rfl⟩
  go_wp2
  go_ret;exact⟨by rw[←HE.out];rfl,rfl⟩
 ·rw[if_neg h1] at hr
  by_cases h0:q=0
  ·rw[if_pos h0] at hr
   rw[hr] at SG;have HE:Hid (s=⟨(jh (-q)).toArray⟩):=hid (by rw[←HSS.out,HN.out,if_neg h1,if_pos h0]);clear hr h1 hs hz HN h0;go_enter Tryz.func44,Tryz.ntmps44
   go_wp2_with fail
   refine(SG.out _).mono ?_;rintro e w1 ⟨rfl,rfl⟩
   go_wp2_with fail
   refine(SG.out _).mono ?_;rintro e w1 ⟨rfl,rfl⟩
   go_wp2
   go_ret;exact⟨by rw[←HE.out];rfl,rfl⟩
  ·rw[if_neg h0] at hr
   rw[hr] at SG;have HE:Hid ((ByteArray.mk #[45]:ByteArray)++s=⟨(jh (-q)).toArray⟩):=hid (by rw[←HSS.out,HN.out,if_neg h1,if_neg h0,KF])
   have hzI:(s.size:Int)≤4000000000000000000:=by omega
   clear hr h1 hs hz HN h0;go_enter Tryz.func44,Tryz.ntmps44
   go_wp2_with fail
   refine(SG.out _).mono ?_;rintro e w1 ⟨rfl,rfl⟩
   go_wp2_with fail
   refine(SG.out _).mono ?_;rintro e w1 ⟨rfl,rfl⟩
   go_wp2
   go_ret;exact⟨by rw[←HE.out];rfl,rfl⟩
theorem FF (L:List Rat) (x:Rat):kF (L++[x])=kF L++[qx x]:=by simp[kF]
theorem FD:qx 0 = .string ⟨#[48]⟩:=by unfold qx;rw[M7]
theorem Oq:jh 1=[49]:=by
 unfold jh;rw[if_neg (by decide),if_pos (by decide),Qbe,Qbg];exact decDigits_one (by decide)
theorem FC:qx 1 = .string ⟨#[49]⟩:=by unfold qx;rw[Oq]
theorem GH {w:World} {base g n c:Nat} {e:TypeId} {xs:List Value} (h:w.ownsRow base e 1 (.slice (some ⟨g,0,none⟩) n c) n xs) (i:Nat) (u:Value):(w.setCell ⟨g,i,none⟩ u).ownsRow base e 1 (.slice (some ⟨g,0,none⟩) n c) n (xs.set i u):=by
 obtain⟨h1,⟨hv,h2⟩ | ⟨g',cap,cur,hv,h2,h3,h4,h5,h6,h7⟩⟩:=h
 ·cases hv
 ·injection hv with ha hb hc
  injection ha with ha
  injection ha with ha
  subst ha hc;refine⟨by simpa using h1,.inr ⟨g,c,cur.setIfInBounds i u,rfl,h2,?_,h4,h5,by simpa using h6,by rw[←h7];simp[List.take_set]⟩⟩;simp[World.setCell,Array.getElem?_modify,h3]
theorem LX (n:Nat) (w:World) (hn:n≤1000):
  Calls Tryz.prog 43 #[.int .i64 n] w fun e w'=>∃u,e = .returned u∧w'.ownsRow w.heap.size 37 1 u n (kF (List.replicate n 0))∧Below w.heap.size w w':=by
 obtain⟨i0,hi,hz0,hz1,hz2⟩:=info_parts ZA;go_enter Tryz.func43,Tryz.ntmps43
 go_wp2_with fail
 go_loopg [3,4] n (fun gh v i wr=>∃k:Nat,i = .int .i64 k∧k+gh=n∧Hid (wr.ownsRow w.heap.size 37 1 v k (kF (List.replicate k 0)))∧Hid (Below w.heap.size w wr))
 case atStart=>exact⟨0,rfl,by omega,hid (World.ownsRow_nil _ _ _ _),hid (Below.refl _ _)⟩
 case round=>
  obtain⟨k,rfl,hk,hO,hB⟩:=hrel;obtain⟨A,c,rfl,hc1,hc2⟩:=jX hO.out;have Hk:=hid hk
  cases gk with
  | zero=>
   have hin:¬((k:Int)<(n:Int)):=by omega
   have hkn:k=n:=by omega
   subst hkn;clear hk
   go_wp2
   go_ret;exact⟨_,rfl,hO.out,hB.out⟩
  | succ gh=>
   have hin:((k:Int)<(n:Int)):=by omega
   have hkn:k<n:=by omega
   have hws:=hB.out.size;clear hk
   go_wp2_with (at_builtin;(refine wpList_append_own _ rfl _ _ 50 rfl w.heap.size 37 i0 (.string ⟨#[]⟩) 1 16 Tryz.underlying50 hi hz0 hz1 hz2 rfl (by decide) _ _ _ rfl (hO.out.alloc _) ⟨wr.heap.size,0,none⟩ 1 1 [.string ⟨#[48]⟩] rfl rfl (cell_one_new _ _ _) (fun x hx=>by simp at hx;subst hx;rfl) (by unfold maxLen;omega) (by omega) (by simp;omega) ?_;intro v5 w5 hown5 hgrow5 _))
   have HO5:Hid (w5.ownsRow w.heap.size 37 1 v5 (k+1) (kF (List.replicate (k+1) 0))):=hid (by
    rw[List.replicate_succ',FF,FD];exact hown5)
   have HB5:=hid (Below.grown (hB.out.alloc hws _) hgrow5 (by simp;omega) (fun j hj=>(hO.out.lt _ hj).1))
   go_roundg gh
   case rel=>exact⟨k+1,by go_num,by have:=Hk.out;omega,HO5,HB5⟩
   case measure=>omega
def MF (M:List (List Rat)) (w:World) (e:Ending) (w':World):Prop:=
 Below w.heap.size w w' ∧ ∃(R:List js) (S:jw Rat) (v:Value),R.map (·.2.2)=M∧S=jy jc ((M[0]?.map (·.length)).getD 0) R.length 0 ⟨R,[],[],false⟩∧e = .returned v ∧
  yk w' v ((S.rows.take S.cols.length).map (·.2.2)) ∧ ∀r∈S.rows,∀x∈r.2.2,qA x
theorem Vp {B s K:Nat} (hB:2≤B) (hs:s≤K) (hl:B^5^K<B9^jW) {x:Rat} (h:Bq (B^5^s) x):qA x:=
 h.bigH (Qax (yM hB (Qai (by decide) hs)) hl)
theorem Ms (B K:Nat) (v:Value) (M:List (List Rat)) (w:World) (hv:yk w v M) (hm:M.length≤256) (hn:(M[0]?.map (·.length)).getD 0≤256) (hr:∀r∈M,r.length=(M[0]?.map (·.length)).getD 0)
  (hB:2≤B) (hbd:∀r∈M,∀x∈r,Bq B x) (hK:M.length≤K∨(M[0]?.map (·.length)).getD 0≤K) (hlim:B^5^K<B9^jW):
  Calls Tryz.prog 13 #[v] w (MF M w):=by
 have PV:=hid (Mv B K v M w hv hm hn hr hB hbd hK hlim);obtain⟨vs,hvs,-,-⟩:=hv;obtain⟨A,c,rfl,-,-⟩:=hvs.form;have HX:=hid (And.intro hB (And.intro hK hlim));clear hm hn hr hB hbd hK hlim hvs;go_enter Tryz.func13,Tryz.ntmps13
 go_wp2_with fail
 refine PV.out.mono ?_;rintro e w1 ⟨hB1,R,S,vE,vC,hRv,hS,rfl,hTE,hSC,hq1,hq2,hbq⟩
 have HF:Hid (MF M w (.returned vE) w1):=hid ⟨hB1,R,S,vE,hRv,hS,rfl,hTE,fun r hr x hx=>by
  have hl:R.length=M.length:=by rw[←hRv];simp
  exact Vp HX.out.1 (show S.cols.length≤K by rcases HX.out.2.1 with h | h <;> omega) HX.out.2.2 (hbq r hr x hx)⟩
 obtain⟨AC,kC,rfl,-,-⟩:=hSC.form;obtain⟨us,hus,-,-⟩:=hTE;obtain⟨AE,kE,rfl,-,-⟩:=hus.form;clear PV HX hB1 hRv hS hus hSC hq1 hq2 hbq
 go_wp2
 go_ret;exact HF.out
noncomputable def JE (n:Nat) (S:jw Rat) (f:Nat):List Rat:=nsSet jc 0 S f S.cols.length ((List.replicate n 0).set f 1)
noncomputable def kB (n:Nat) (S:jw Rat) (k:Nat):List (List Rat):=((List.range k).filter (fun c=> !S.cols.contains c)).map (JE n S)
section
variable {n k:Nat} {S:jw Rat}
theorem AX (h:S.cols.contains k=true):kB n S (k+1)=kB n S k:=by
 unfold kB;rw[Qcj,List.filter_append];simp only[List.filter,h,Bool.not_true,Qbg]
theorem AU (h:S.cols.contains k=false):kB n S (k+1)=kB n S k++[JE n S k]:=by
 unfold kB;rw[Qcj,List.filter_append];simp only[List.filter,h,Bool.not_false,QaQ,List.map_cons,List.map_nil]
theorem AV:(kB n S k).length≤k:=by
 unfold kB;rw[Qar];exact Qap (List.length_filter_le _ _) (by simp)
theorem Qx:∀r∈kB n S k,r.length=n:=by
 intro r hr;obtain⟨f,_,rfl⟩:=List.mem_map.1 hr;unfold JE;rw[yL];simp
theorem AY:∀r∈kB n S k,r.length=(((kB n S k)[0]?).map (·.length)).getD 0:=by
 intro r hr;rw[Qx r hr]
 cases h:kB n S k with
 | nil=>rw[h] at hr;cases hr
 | cons a t=>simp;exact(Qx a (by rw[h];simp)).symm
theorem AZ:(((kB n S k)[0]?).map (·.length)).getD 0≤n:=by
 cases h:kB n S k with
 | nil=>simp
 | cons a t=>simp;exact Nat.le_of_eq (Qx a (by rw[h];simp))
theorem Bm {α:Type} (p:α→Bool) (L:List α):(L.filter p).length+(L.filter (fun c=> !p c)).length=L.length:=by
 induction L with
 | nil=>rfl
 | cons a t ih=>
  simp only[List.filter_cons,QaR];cases h:p a
  ·simp;omega
  ·simp;omega
theorem D0 {n:Nat} {C:List Nat} (h1:∀c∈C,c<n) (h2:C.Nodup):((List.range n).filter (fun c=> !C.contains c)).length+C.length=n:=by
 have h3:List.Perm ((List.range n).filter (fun c=>C.contains c)) C:=by
  refine(List.perm_ext_iff_of_nodup (List.nodup_range.filter _) h2).2 (fun a=> ?_);simp only[List.mem_filter,List.mem_range,List.contains_iff_mem];exact⟨fun h=>h.2,fun h=>⟨h1 a h,h⟩⟩
 have h4:=h3.length_eq;have h5:=Bm (fun c=>C.contains c) (List.range n);rw[List.length_range] at h5;omega
end
theorem We {M:List (List Rat)} {R:List js} {n:Nat} (hR:R.map (·.2.2)=M) (hr:∀r∈M,r.length=n):
  qH (fun _=>True) R.length n (jy jc n R.length 0 ⟨R,[],[],false⟩).rows∧(∀i,i<(jy jc n R.length 0 ⟨R,[],[],false⟩).cols.length→xp (jy jc n R.length 0 ⟨R,[],[],false⟩) i<n) ∧
  (jy jc n R.length 0 ⟨R,[],[],false⟩).cols.length≤R.length∧(jy jc n R.length 0 ⟨R,[],[],false⟩).cols.Nodup ∧ ∀c∈(jy jc n R.length 0 ⟨R,[],[],false⟩).cols,c<n:=by
 have hG:qH (fun _=>True) R.length n R:=by
  refine⟨rfl,fun i hi=> ?_⟩;have e:=Qaa hi;rw[qF e]
  have hm:(R[i]).2.2∈M:=by rw[←hR];exact Qa1 (Qay hi)
  exact⟨hr _ hm,fun _ _=>trivial⟩
 obtain⟨G,-,-,d1,dm,-,-,-,-,d2⟩:=J2 QP hG;refine⟨G,d1,d2,?_,fun c hc=> ?_⟩
 ·rw[List.Nodup,List.pairwise_iff_getElem]
  intro i j hi hj hij e;have:=dm i j hij hj;unfold xp at this;rw[yo (l:=(jU jc n R.length R).cols) hi,yo (l:=(jU jc n R.length R).cols) hj] at this;have e':(jU jc n R.length R).cols[i]'hi=(jU jc n R.length R).cols[j]'hj:=e;omega
 ·obtain⟨i,hi,e⟩:=List.mem_iff_getElem.1 hc
  have:=d1 i hi;unfold xp at this;rw[yo (l:=(jU jc n R.length R).cols) hi] at this;rw[←e];exact this
theorem qz.tblX {w:World} {base n:Nat} {v:Value} {vs:List Value} {Ls:List (List Rat)} (h:qz w base n v vs Ls) (h1:Ls.length≤1000000) (h2:n≤1000000):yk w v Ls:=
 ⟨vs,x9 h.own (by omega),h.vlen,fun i r hr=>by obtain⟨u,hu,ho⟩:=h.row i r hr;exact⟨u,hu,x9 ho (by omega)⟩⟩
theorem Bq.ns {B n:Nat} (hB:2≤B) {S:jw Rat} (h:∀r∈S.rows,∀x∈r.2.2,Bq B x) (col:Nat):∀k,∀x∈nsSet jc 0 S col k ((List.replicate n 0).set col 1),Bq B x
 | 0,x,hx=>by
  have hx':x∈(List.replicate n (0:Rat)).set col 1:=hx;rcases QaN hx' with h1 | h1
  ·rw[QaU h1];exact Bq.zero hB
  ·rw[h1];exact⟨by show 1≤B;omega,by show 1≤B;omega⟩
 | k+1,x,hx=>by
  rw[Jd] at hx;rcases QaN hx with h1 | h1
  ·exact Bq.ns hB h col k x h1
  ·rw[h1]
   show Bq B (0-_)
   rw[Rat.sub_eq_add_neg,Rat.zero_add];refine Bq.neg ?_;unfold jC jL
   cases e:S.rows[k]? with
   | none=>exact Bq.zero hB
   | some r=>exact Bq.at hB (h r (Qab e)) col
def MT (M:List (List Rat)) (w:World) (e:Ending) (w':World):Prop:=
 Below w.heap.size w w' ∧ ∃(R Ro:List js) (S Z:jw Rat) (v:Value),R.map (·.2.2)=M∧S=jy jc (ji M) R.length 0 ⟨R,[],[],false⟩∧Ro.map (·.2.2)=kB (ji M) S (ji M) ∧
  Z=jy jc (ji (kB (ji M) S (ji M))) Ro.length 0 ⟨Ro,[],[],false⟩∧e = .returned v∧yk w' v ((Z.rows.take Z.cols.length).map (·.2.2)) ∧ ∀r∈Z.rows,∀x∈r.2.2,qA x
theorem LM (B K:Nat) (v:Value) (M:List (List Rat)) (w:World) (hv:yk w v M) (hm:M.length≤256) (hn:ji M≤256) (hr:∀r∈M,r.length=ji M)
  (hB:2≤B) (hbd:∀r∈M,∀x∈r,Bq B x) (hK:M.length≤K) (hK2:ji M≤K) (hlim:B^5^K<B9^jW):
  Calls Tryz.prog 14 #[v,.int .i64 (ji M:Nat)] w (MT M w):=by
 have PV:=hid (Mv B K v M w hv hm hn hr hB hbd (.inl hK) hlim);obtain⟨vs,hvs,hvl,hvr⟩:=hv;obtain⟨A,c,rfl,hc1,hc2⟩:=hvs.form;have HR:=hid hr;have HLM:=hid (And.intro hB (And.intro hK2 hlim));obtain⟨s0,hs0,hsz0,hsz1,hsz2⟩:=info_parts Wx
 obtain⟨n,hnn⟩:∃n,n=ji M:=⟨_,rfl⟩
 have HN:=hid hnn;rw[←hnn] at hn ⊢;have ZR:=hid (fun W=>LX n W (by omega));clear hvr hr hnn hvs hvl hB hbd hK hK2 hlim;go_enter Tryz.func14,Tryz.ntmps14
 go_wp2_with fail
 refine PV.out.mono ?_;clear PV;rintro e w1 ⟨hB1,R,S,vE,vC,hRv,hS,rfl,hTE,hSC,hq1,hq2,hbq⟩;have HB1:=hid hB1;have HRV:=hid hRv;have hS':S=jy jc (ji M) R.length 0 ⟨R,[],[],false⟩:=hS;have HS:=hid hS';obtain⟨hG,hcl,_,hnd,hcm⟩:=We hRv (fun r h=>(HR.out r h).trans HN.out.symm);rw[HN.out,←hS'] at hG hcl hnd hcm;rw[←HN.out] at hG hcl hcm;have HG:=hid hG;have HCL:=hid hcl;have HFL:=hid (D0 hcm hnd);have HTE:=hid hTE;have HSC:=hid hSC;have HBQ:=hid hbq;have HQ1:=hid hq1
 have hqr:S.cols.length≤256:=by
  have:=congrArg List.length hRv;rw[Qar] at this;omega
 obtain⟨AC,kC,rfl,hkC1,hkC2⟩:=hSC.form
 have hnl:(jm S.cols).length=S.cols.length:=by simp[jm]
 rw[hnl] at hkC1 HSC ⊢;obtain⟨us0,hus,hul,hur⟩:=HTE.out;obtain⟨AE,kE,rfl,hE1,hE2⟩:=hus.form
 have hul2:us0.length=S.cols.length:=by
  rw[hul,Qar,Qak,HG.out.1];have:=hq1;omega
 rw[hul2] at hus hE1 ⊢;have HUS:=hid hus;have HUR:=hid hur;have HUL:=hid hul2;clear hB1 hRv hS hS' hG hcl hTE hSC hnl hq1 hq2 hbq hnd hcm hus hur hul hul2 HTE
 go_wp2_with fail
 go_loopg [7,8] n (fun gh ov ci wx=>∃(k:Nat) (us:List Value),ci = .int .i64 k∧k+gh=n∧Hid (qz wx w1.heap.size n ov us (kB n S k))∧Hid (Below w1.heap.size w1 wx))
 case atStart=>exact⟨0,[],rfl,by omega,hid (qz.nil _ _ _),hid (Below.refl _ _)⟩
 case round=>
  obtain⟨k,us,rfl,hk,hT,hW⟩:=hrel;have hCl:(kB n S k).length≤k:=AV;obtain⟨A7,k7,hu7,hk71,hk72⟩:=jX hT.out.own;subst hu7
  cases gk with
  | zero=>
   have hin2:¬((k:Int)<(n:Int)):=by omega
   have hkn:k=n:=by omega
   subst hkn;have hTX:=hT.out.tblX (by omega) (by omega);have hws:=HB1.out.size
   have hkl:(kB k S k).length+S.cols.length=k:=by
    have h:=HFL.out;unfold kB;rw[Qar];exact h
   have h5:(B^5^S.cols.length)^5^(k-S.cols.length)=B^5^k:=by
    rw[←QbY,←Qbj]
    congr 2
    omega
   have EC:=hid (Ms (B^5^S.cols.length) (k-S.cols.length) _ (kB k S k) wr hTX (by omega) (Qap AZ hn) AY (YB HLM.out.1) (fun r hr x hx=>by
    obtain⟨f,_,rfl⟩:=List.mem_map.1 hr
    exact Bq.ns (YB HLM.out.1) HBQ.out f _ x hx) (.inl (by omega)) (by
    rw[h5]
    exact Qax (yM HLM.out.1 (Qai (by decide) (by have:=HLM.out.2.1;have:=HN.out;omega))) HLM.out.2.2))
   have HBr:=hid (HB1.out.trans (hW.out.mono HB1.out.size));clear hTX hT hk hW hkl h5
   go_wp2_with fail
   refine EC.out.mono ?_;rintro e w3 ⟨hB3,Ro,Z,vO,hRo,hZ,rfl,hTO,hbz⟩;have HF:Hid (MT M w (.returned vO) w3):=hid ⟨HBr.out.trans (hB3.mono HBr.out.size),R,Ro,S,Z,vO,HRV.out,HS.out,by rw[←HN.out];exact hRo,by rw[←HN.out];exact hZ,rfl,hTO,hbz⟩;obtain⟨xs,hxs,-,-⟩:=hTO;obtain⟨AO,kO,rfl,-,-⟩:=hxs.form;clear hRo hZ hxs hbz EC hB3
   go_wp2
   go_ret;exact HF.out
  | succ gh=>
   have hkn:k<n:=by omega
   have hkn':((k:Int)<(n:Int)):=by omega
   have HA:=hid (LK (.slice AC S.cols.length kC) (S.cols.map fun (x:Nat)=>(x:Int)) (k:Int) wr (by rw[←Cm];exact HSC.out.below hW.out));rw[Nd] at HA;have Hk:=hid hk
   cases hct:S.cols.contains k with
   | true=>
    have HT1:Hid (qz wr w1.heap.size n (.slice A7 (kB n S k).length k7) us (kB n S (k+1))):=hid (by rw[AX hct];exact hT.out);rw[hct] at HA;clear hk hct hT
    go_wp2_with fail
    refine HA.out.mono ?_;rintro e w2 ⟨rfl,hB2⟩;have HT2:=hid (HT1.out.below hB2);have HW2:=hid (hW.out.trans (hB2.mono hW.out.size));clear HA HT1 hW hB2
    go_wp2
    go_roundg gh
    case rel=>exact⟨k+1,us,by go_num,by have:=Hk.out;omega,HT2,HW2⟩
    case measure=>omega
   | false=>
    have HK:=hid (AU (n:=n) hct);rw[hct] at HA;clear hk hct
    go_wp2_with fail
    refine HA.out.mono ?_;rintro e w2 ⟨rfl,hB2⟩;have HT2:=hid (hT.out.below hB2);have HW2:=hid (hW.out.trans (hB2.mono hW.out.size));clear HA hT hW hB2
    go_wp2_with fail
    refine(ZR.out _).mono ?_;rintro e w3 ⟨uz,rfl,hOz,hB3⟩;obtain⟨gz,cz,hvz,hbz,hUz⟩:=Us.of_owns hOz (by omega:0<n);subst hvz;have ck:=hUz.cell hkn;rw[Yg _ k (by simp;exact hkn)] at ck;unfold qx at ck;have fk:=hUz.free k;have lk:=hUz.lt;have ccz:n≤cz:=hUz.2.1;have ccm:cz≤maxLen:=hUz.2.2.1;have HO1:=hid (GH hOz k (qx 1));rw[Ul,FC] at HO1;have HB3':=hid (hB3.setCell (p:=⟨gz,k,none⟩) hbz (.string ⟨#[49]⟩));have hs2:w1.heap.size≤w2.heap.size:=HW2.out.size;generalize (List.replicate n (0:Rat))[k]?.getD 0=z0 at *;clear hOz hUz hB3
    go_upto_region 9 with fail
    obtain⟨w4,hw4⟩:∃w4,w4=w3.setCell ⟨gz,k,none⟩ (.string ⟨#[49]⟩):=⟨_,rfl⟩
    rw[←hw4] at HO1 HB3';rw[←hw4];clear hw4 ck fk lk
    go_wp2_with fail
    go_loopg [10] S.cols.length (fun gh2 ix wx=>∃j:Nat,ix = .int .i64 j∧j+gh2=S.cols.length∧Hid (wx.ownsRow w2.heap.size 37 1 (.slice (some ⟨gz,0,none⟩) n cz) n (kF (nsSet jc 0 S k j ((List.replicate n 0).set k 1))))∧Hid (Below w2.heap.size w2 wx))
    case atStart=>exact⟨0,rfl,by omega,HO1,HB3'⟩
    case round=>
     clear HO1 HB3';obtain⟨j,rfl,hj,hOx,hBx⟩:=hrel;have hs3:=hBx.out.size;have Hj:=hid hj
     cases gk with
     | zero=>
      have hin2:¬((j:Int)<(S.cols.length:Int)):=by omega
      have HL2:Hid (wr.ownsRow w2.heap.size 37 1 (.slice (some ⟨gz,0,none⟩) n cz) n (kF (JE n S k))):=hid (by
       have:j=S.cols.length:=by omega
       have h:=hOx.out
       rw[this] at h;exact h)
      have HT3:=hid (HT2.out.below hBx.out);clear hj hOx
      go_wp2_with (at_builtin;(refine wpList_append_own _ rfl _ _ 22 rfl w1.heap.size 50 s0 (.slice none 0 0) 1 24 Tryz.underlying22 hs0 hsz0 hsz1 hsz2 rfl (by decide) _ _ _ rfl (HT3.out.own.alloc _) ⟨wr.heap.size,0,none⟩ 1 1 [.slice (some ⟨gz,0,none⟩) n cz] rfl rfl (cell_one_new _ _ _) (fun x hx=>by simp at hx;subst hx;rfl) (by unfold maxLen;omega) (by omega) (by simp;omega) ?_;intro v7 w7 hown7 hgrow7 _))
      have hal:Below wr.heap.size wr (wr.alloc (.cells #[.slice (some ⟨gz,0,none⟩) n cz] 50)):=(Below.refl _ _).alloc (Nat.le_refl _) _;have HT7:=hid ((HT3.out.below hal).snoc (L:=JE n S k) hgrow7 hown7 (kD HL2.out hal) HT2.out hs2);have HW7:Hid (Below w1.heap.size w1 w7):=hid (Below.grown (((HW2.out.trans (hBx.out.mono hs2))).alloc (by omega) _) hgrow7 (by simp;omega) (fun j hj=>(HT3.out.own.lt j hj).1))
      go_roundg gh
      case rel=>exact⟨k+1,us++[.slice (some ⟨gz,0,none⟩) n cz],by go_num,by have:=Hk.out;omega,hid (by rw[HK.out];exact HT7.out),HW7⟩
      case measure=>omega
     | succ gh2=>
      have hjl:j<S.cols.length:=by omega
      have hjl':((j:Int)<(S.cols.length:Int)):=by omega
      have hWr:Hid (Below w1.heap.size w1 wr):=hid (HW2.out.trans (hBx.out.mono hs2));obtain⟨b3,off3,rfl,hbb3,hcell3⟩:=HSC.out.at_ (k:=j) (by simp[jm];omega)
      have hcc:=(hWr.out.cell (p:=⟨b3,off3+j,none⟩) hbb3).trans ((hcell3 j (by simp[jm];omega)).trans (show (jm S.cols)[j]? =some (.int .i64 ((S.cols[j]?.getD 0:Nat):Int)) by
       unfold jm;rw[Qao,Qaa hjl];rfl))
      have hcn:S.cols[j]?.getD 0<n:=HCL.out j hjl
      have hrl:j<S.rows.length:=by have:=HG.out.1;have:=HQ1.out;omega
      have hrj:((S.rows.take S.cols.length).map (·.2.2))[j]? =some (jL S.rows j):=by
       rw[Qao,QbQ hjl,Qaa hrl,qF (Qaa hrl)];rfl
      obtain⟨g1,-⟩:=HG.out.2 j (by have:=HQ1.out;omega);obtain⟨v4,hv4,hs4⟩:=HUR.out j _ hrj;obtain⟨A4,k4,rfl,h41,h42⟩:=hs4.form;rw[Jg,g1] at h41 h42 hv4;obtain⟨b5,off5,rfl,hbb5,hcell5⟩:=HUS.out.at_ (k:=j) (by rw[HUL.out];exact hjl);have hce:=(hWr.out.cell (p:=⟨b5,off5+j,none⟩) hbb5).trans ((hcell5 j (by rw[HUL.out];exact hjl)).trans hv4);obtain⟨b6,off6,rfl,hbb6,hcell6⟩:=hs4.at_ (k:=k) (by rw[Jg,g1];omega);have hcx:=(hWr.out.cell (p:=⟨b6,off6+k,none⟩) hbb6).trans ((hcell6 k (by rw[Jg,g1];omega)).trans (Yg _ k (by rw[g1];omega)))
      have hxb:zp ((jL S.rows j)[k]?.getD 0):=by
       refine(Vp HLM.out.1 (show S.cols.length≤K by have:=HLM.out.2.1;have:=HN.out;have:=HFL.out;omega) HLM.out.2.2 (Bq.at (YB HLM.out.1) (fun x hx=> ?_) k)).bigD;rw[qF (Qaa hrl)] at hx;exact HBQ.out _ (Qay hrl) x hx
      have hUx:Us wr 37 gz n cz (kF (nsSet jc 0 S k j ((List.replicate n 0).set k 1))):=by
       obtain⟨g',c',hv',_,hU'⟩:=Us.of_owns hOx.out (by omega:0<n)
       injection hv' with ha hb hc
       injection ha with ha
       injection ha with ha
       subst ha hc;exact hU'
      have c2:=hUx.cell hcn;rw[Yg _ _ (by rw[yL];simp;omega)] at c2;have f2:=hUx.free (S.cols[j]?.getD 0)
      have Hs:Hid (nsSet jc 0 S k (j+1) ((List.replicate n 0).set k 1)=(nsSet jc 0 S k j ((List.replicate n 0).set k 1)).set (S.cols[j]?.getD 0) (-((jL S.rows j)[k]?.getD 0))):=hid (by
       rw[Jd]
       congr 1
       show (0:Rat)-_=_
       rw[Rat.sub_eq_add_neg,Rat.zero_add];rfl)
      have HO4:Hid ((wr.setCell ⟨gz,S.cols[j]?.getD 0,none⟩ (qx (-((jL S.rows j)[k]?.getD 0)))).ownsRow w2.heap.size 37 1 (.slice (some ⟨gz,0,none⟩) n cz) n (kF (nsSet jc 0 S k (j+1) ((List.replicate n 0).set k 1)))):=hid (by rw[Hs.out,←Ul];exact GH hOx.out _ _);have HB4:=hid (hBx.out.setCell (p:=⟨gz,S.cols[j]?.getD 0,none⟩) hbz (qx (-((jL S.rows j)[k]?.getD 0))));have hl5:=Qac hbb5 hWr.out.size;have hl6:=Qac hbb6 hWr.out.size;have hl3:=Qac hbb3 hWr.out.size
      have hcn':((S.cols[j]?.getD 0:Nat):Int)<(n:Int):=by omega
      have NG:=hid (RZ ((jL S.rows j)[k]?.getD 0) wr.drew hxb);clear hcell3 hcell5 hcell6 hOx hBx Hs g1 hrj hrl hv4 hs4 hj hxb hUx;unfold qx at HO4 HB4 hcx c2;generalize (jL S.rows j)[k]?.getD 0=x at *;generalize (nsSet jc 0 S k j ((List.replicate n 0).set k 1))[S.cols[j]?.getD 0]?.getD 0=y at *;generalize S.cols[j]?.getD 0=cj at *
      go_upto_region 12 with fail
      refine wp_region_still_tail 14 (by kernel_rfl) (by kernel_rfl) ?_;simp only[QbK,QbL,Qcb,Qa0];change wpStill _ _ wr.drew (fun a'=>wpList _ _ _ _ a' wr.drew) _ _
      repeat still_step
      still_call (NG.out)
      repeat still_step
      refine wpStill_nil ?_
      go_wp2
      go_roundg gh2
      case rel=>exact⟨j+1,by go_num,by have:=Hj.out;omega,hid HO4.out,hid (HB4.out.drew)⟩
      case measure=>omega
