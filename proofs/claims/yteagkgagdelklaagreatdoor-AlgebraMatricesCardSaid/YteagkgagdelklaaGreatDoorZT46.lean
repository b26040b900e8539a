/- The law AlgebraMatrices. -/
import Derived.Test.YteagkgagdelklaaGreatDoorZT45
set_option maxRecDepth 100000
set_option maxHeartbeats 8000000
namespace Go.Proofs.YteagkgagdelklaaGreatDoor
open Go.RowKit Go.Lib
theorem Zx:JR (B9^jW):=by
 have e:B9^jW=10^(9*jW):=by rw[QbY]
 rw[e];exact DU (by have:=Qy;have:=XZ;omega)
theorem Bt (a e:Nat) (h:a*e<9*jW):(10^a)^e<B9^jW:=by
 have e2:B9^jW=10^(9*jW):=by rw[QbY]
 rw[e2,←QbY];exact Nat.pow_lt_pow_right (by decide) h
@[irreducible] def X7:Nat:=10^7
theorem YR:X7=10^7:=by unfold X7;rfl
theorem Bu (X a e:Nat) (hX:X=10^a) (h:a*e<9*jW):X^e<B9^jW:=by
 subst hX;exact Bt a e h
@[irreducible] def E7:Nat:=7
theorem Qc:E7=7:=by unfold E7;rfl
theorem Sh (e:Nat) (h:e≤500000):X7^e<B9^jW:=Bu X7 7 e YR (by unfold jW;omega)
theorem Sg:X7^5^E7<B9^jW:=Sh _ (by rw[Qc];decide)
theorem Si:2≤X7:=by rw[YR];decide
theorem MW:∀ {L:List jl},ky L=0 → ∀l∈L,(j6 l).1=0
 | [],_,l,h=>by cases h
 | a::t,h,l,hl=>by
  unfold ky at h;split at h
  ·rename_i h1
   rcases List.mem_cons.1 hl with rfl | hl
   ·exact h1
   ·exact MW h l hl
  ·rename_i h1;exact absurd h h1
theorem MY {n0:Nat} :∀ {M:List (List jl)},xE n0 M=0 → ∀r∈M,r.length=n0∧ky r=0
 | [],_,r,h=>by cases h
 | a::t,h,r,hr=>by
  unfold xE at h;split at h
  ·exact absurd h (by decide)
  ·split at h
   ·exact absurd h (by decide)
   ·split at h
    ·rename_i h1 h2 h3
     rcases List.mem_cons.1 hr with rfl | hr
     ·exact⟨Decidable.not_not.1 h2,h3⟩
     ·exact MY h r hr
    ·rename_i h1 h2 h3;exact absurd h h3
theorem Gh {M:List (List jl)} (h:jG M=0):∀r∈M,r.length=ji M∧ky r=0:=by
 unfold jG at h;split at h
 ·exact absurd h (by decide)
 ·exact MY h
theorem Ov {L:List jl} (h:∀l∈L,(j6 l).1=0):kF (jg L)=jN L:=by
 unfold kF jg jN;rw[Qcs];exact List.map_congr_left (fun l hl=>by show qx (j6 l).2=sv l;unfold qx sv;rw[(Mh l (h l hl)).1])
theorem jT.num {w:World} {v:Value} {M:List (List jl)} (h:jT w v M) (hM:jG M=0):yk w v (M.map jg):=by
 obtain⟨vs,h1,h2,h3⟩:=h;refine⟨vs,h1,by rw[Qar];exact h2,fun i r hr=> ?_⟩;rw[Qao] at hr
 cases hl:M[i]? with
 | none=>rw[hl] at hr;cases hr
 | some L=>
  rw[hl] at hr;obtain rfl:=QaE hr;obtain⟨u,hu,hs⟩:=h3 i L hl;exact⟨u,hu,by rw[Ov (MW (Gh hM L (Qab hl)).2)];exact hs⟩
theorem Jl (M:List (List jl)):ji (M.map jg)=ji M:=by
 unfold ji;rw[Qao]
 cases M[0]? with
 | none=>rfl
 | some r=>simp[jg]
theorem QT {M:List (List jl)} (h:jG M=0):∀r∈M.map jg,r.length=ji (M.map jg):=by
 intro r hr;obtain⟨L,hL,rfl⟩:=List.mem_map.1 hr;rw[Jl];have:=(Gh h L hL).1;simp[jg,this]
theorem US {n:Nat} {M:List (List jl)} (h:zt n M):ji M≤n:=by
 unfold ji
 cases e:M[0]? with
 | none=>simp
 | some r=>simpa using (h.2 r (Qab e)).1
theorem OH {n:Nat} (hn:1≤n) {M:List (List jl)} (h:zt n M):∀r∈M.map jg,∀x∈r,Bq (10^n) x:=by
 intro r hr x hx;obtain⟨L,hL,rfl⟩:=List.mem_map.1 hr;obtain⟨l,hl,rfl⟩:=List.mem_map.1 hx;exact F6 ((h.2 L hL).2 l hl) hn
theorem QU {M:List (List jl)} (h:zt 7 M):∀r∈M.map jg,∀x∈r,Bq X7 x:=by
 rw[YR];exact OH (by decide) h
theorem Kf {n:Nat} (hn:n≤19) {M:List (List jl)} (h:zt n M):∀r∈M,∀l∈r,xd l:=fun r hr l hl=>by
 have:=(h.2 r hr).2 l hl;exact⟨by omega,.inl (by omega)⟩
theorem Zn {T:Type} {F:Fd T} {n:Nat} :∀(k fr:Nat) (S:jw T),(jy F n k fr S).rows.length=S.rows.length
 | 0,_,_=>rfl
 | k+1,fr,S=>by
  unfold jy;split
  ·rfl
  ·rw[Zn]
   show (jY F _ _ _ _ _).length=_
   rw[VD];unfold elDiv;rw[Ke,Zq]
theorem Dh (n:Nat) (V:List (List Rat)):(xZ n V).length≤V.length:=by
 unfold xZ;rw[Qar,Qak]
 have:(j4 jc n V).rows.length=V.length:=by unfold j4;rw[Zn];simp[qX]
 omega
theorem Qd.below {w w':World} {Ls:List (List Rat)} {v:Value} {k:Int} (h:Qd w Ls v k) (hb:Below w.heap.size w w'):Qd w' Ls v k:=by
 rcases h with ⟨h1,h2,h3⟩ | h
 ·exact .inl ⟨h1,h2,h3.below hb⟩
 ·exact .inr h
def YA (x y:Value) (w:World) (e:Ending) (w':World):Prop:=e = .returned (.tuple #[x,y])∧Below w.heap.size w w'
section
variable {v:Value} {M:List (List jl)}
structure qa (v:Value) (M:List (List jl)) (w:World):Prop where
 hv:jT w v M
 hs:zt 7 M
 hG:jK w
variable {w:World}
theorem qa.lim (_:qa v M w):2≤X7∧X7^5^E7<B9^jW:=⟨Si,Sg⟩
theorem qa.len (h:qa v M w):X7^5^(M.map jg).length<B9^jW:=by
 have:=h.lim;rw[Qar];exact Qax (yM this.1 (Qai (by decide) (by rw[Qc];exact h.hs.1))) this.2
theorem qa.ec_ok (h:qa v M w) (hM:jG M=0):Calls Tryz.prog 7 #[v] w (ZN (xZ (ji M) (M.map jg)) w):=by
 have ho:=Ua Zx (n:=ji M) h.lim.1 (QU h.hs) h.len;refine(U1 v M w h.hv (Kf (by decide) h.hs) h.hG (fun _=>⟨ho.1,ho.2.1⟩)).mono ?_;rintro e w' ⟨hB,⟨_,h1⟩ | ⟨h1,_⟩⟩
 ·exact Gg hB h1 (Qap (Dh _ _) (by have:=h.hs.1;rw[Qar];omega))
 ·exact absurd hM h1
theorem qa.ec_bad (h:qa v M w) (hM:jG M≠0):Calls Tryz.prog 7 #[v] w (YA jn (.int .i64 (jG M)) w):=by
 refine(U1 v M w h.hv (Kf (by decide) h.hs) h.hG (fun k=>absurd k hM)).mono ?_;rintro e w' ⟨hB,⟨h1,_⟩ | ⟨_,rfl⟩⟩
 ·exact absurd h1 hM
 ·exact⟨rfl,hB⟩
theorem qa.kc_ok (h:qa v M w) (hM:jG M=0):Calls Tryz.prog 9 #[v] w (ZN (ze (ji M) (M.map jg)) w):=by
 refine(YO v M w h.hv (Kf (by decide) h.hs) h.hG (fun _=>Bd Zx h.lim.1 (QU h.hs) h.len)).mono ?_;rintro e w' ⟨hB,⟨_,h1⟩ | ⟨h1,_⟩⟩
 ·exact Gg hB h1 (Qap (Z0 ..) (by have:=US h.hs;omega))
 ·exact absurd hM h1
theorem qa.kc_bad (h:qa v M w) (hM:jG M≠0):Calls Tryz.prog 9 #[v] w (YA jn (.int .i64 (jG M)) w):=by
 refine(YO v M w h.hv (Kf (by decide) h.hs) h.hG (fun k=>absurd k hM)).mono ?_;rintro e w' ⟨hB,⟨h1,_⟩ | ⟨_,rfl⟩⟩
 ·exact absurd h1 hM
 ·exact⟨rfl,hB⟩
theorem qa.rk_ok (h:qa v M w) (hM:jG M=0):Calls Tryz.prog 8 #[v] w (YA (.int .i64 ((j4 jc (ji M) (M.map jg)).cols.length:Nat)) (.int .i64 0) w):=by
 have ho:=Ua Zx (n:=ji M) h.lim.1 (QU h.hs) h.len;refine(U4 v M w h.hv (Kf (by decide) h.hs) h.hG (fun _=>ho.1)).mono ?_;rintro e w' ⟨hB,⟨_,rfl⟩ | ⟨h1,_⟩⟩
 ·exact⟨rfl,hB⟩
 ·exact absurd hM h1
theorem qa.rk_bad (h:qa v M w) (hM:jG M≠0):Calls Tryz.prog 8 #[v] w (YA (.int .i64 0) (.int .i64 (jG M)) w):=by
 refine(U4 v M w h.hv (Kf (by decide) h.hs) h.hG (fun k=>absurd k hM)).mono ?_;rintro e w' ⟨hB,⟨h1,_⟩ | ⟨_,rfl⟩⟩
 ·exact absurd h1 hM
 ·exact⟨rfl,hB⟩
theorem qa.cm (h:qa v M w):Calls Tryz.prog 10 #[v] w fun e w'=>e = .returned (.int .i64 (jG M))∧Below w.heap.size w w':=
 (Rx v M w h.hv (Kf (by decide) h.hs) h.hG).mono fun e w' k=>⟨k.2,k.1⟩
theorem qa.ci (h:qa v M w):Calls Tryz.prog 6 #[v] w fun e w'=>e = .returned (.int .i64 (jG M))∧Below w.heap.size w w':=
 LC v M w h.hv (fun r hr l hl=>by have:=(h.hs.2 r hr).2 l hl;omega)
def Ur (Ls:List (List Rat)) (w:World) (e:Ending) (w':World):Prop:=Below w.heap.size w w' ∧ ∃A c,e = .returned (.slice A Ls.length c)∧jT w' (.slice A Ls.length c) (xG Ls) ∧ ∀r∈Ls,∀x∈r,zp x
theorem Mq {Ls:List (List Rat)} {w w':World} {v:Value} (hB:Below w.heap.size w w') (hT:yk w' v Ls) (hb:∀r∈Ls,∀x∈r,zp x):Ur Ls w (.returned v) w':=by
 have h:=hT.txt;obtain⟨A,c,rfl,_,_⟩:=h.form
 have e:(xG Ls).length=Ls.length:=by unfold xG;rw[Qar]
 rw[e] at h ⊢;exact⟨hB,A,c,rfl,h,hb⟩
theorem Vq {S:jw Rat} (h:∀r∈S.rows,∀x∈r.2.2,qA x):∀r∈(S.rows.take S.cols.length).map (·.2.2),∀x∈r,zp x:=by
 intro r hr x hx;obtain⟨q,hq,rfl⟩:=List.mem_map.1 hr;exact(h q (Qbp hq) x hx).bigD
theorem qa.re (h:qa v M w) (hM:jG M=0):Calls Tryz.prog 13 #[v] w (Ur (xZ (ji M) (M.map jg)) w):=by
 have hw:=US h.hs;have hl:=h.hs.1;refine(Ms X7 E7 v (M.map jg) w (h.hv.num hM) (by rw[Qar];omega) (by have:=Jl M;unfold ji at this hw;rw[this];omega) (QT hM) h.lim.1 (QU h.hs) (.inl (by rw[Qar,Qc];exact hl)) h.lim.2).mono ?_;rintro e w' ⟨hB,R,S,u,hR,hS,rfl,hT,hb⟩
 have hS':S=jy jc (ji M) R.length 0 ⟨R,[],[],false⟩:=by rw[←Jl];exact hS
 have he:=(Dj hR hS').1;have:=Mq hB hT (Vq hb)
 rwa [he] at this
theorem qa.rkn (h:qa v M w) (hM:jG M=0):Calls Tryz.prog 14 #[v,.int .i64 (ji M:Nat)] w (Ur (ze (ji M) (M.map jg)) w):=by
 have hw:=US h.hs;have hl:=h.hs.1;have hc:=LM X7 E7 v (M.map jg) w (h.hv.num hM) (by rw[Qar];omega) (by rw[Jl];omega) (QT hM) h.lim.1 (QU h.hs) (by rw[Qar,Qc];exact hl) (by rw[Jl,Qc];exact hw) h.lim.2;rw[Jl] at hc;refine hc.mono ?_;rintro e w' ⟨hB,R,Ro,S,Z,u,hR,hS,hRo,hZ,rfl,hT,hb⟩;have he:=Bf (QT hM) hR hS hRo;rw[←hZ,Jl] at he;have:=Mq hB hT (Vq hb)
 rwa [he] at this
end
theorem Ru (v:Value) (M:List (List jl)) (w:World) (hv:jT w v M) (hG:jK w):
  Calls Tryz.prog 3 #[v] w fun e w'=>e = .returned (.bool true)∧Below w.heap.size w w':=by
 have AW:=hid (fun (W:World) (hB:Below w.heap.size w W)=>Tl W (hG.below hB));have SH:=hid (fun (W:World) (hB:Below w.heap.size w W)=>LU v M 7 W (hv.below hB) (by decide));by_cases hS:zt 7 M
 ·rw[QaK hS] at SH
  have MH:=fun (W:World) (hB:Below w.heap.size w W)=>(⟨hv.below hB,hS,hG.below hB⟩:qa v M W)
  have CI:=hid (fun W hB=>(MH W hB).ci);have CM:=hid (fun W hB=>(MH W hB).cm);by_cases hM:jG M=0
  ·have EC:=hid (fun W hB=>(MH W hB).ec_ok hM)
   have KC:=hid (fun W hB=>(MH W hB).kc_ok hM);have RK:=hid (fun W hB=>(MH W hB).rk_ok hM);have RE:=hid (fun W hB=>(MH W hB).re hM);have RN:=hid (fun W hB=>(MH W hB).rkn hM);have WD:Hid (∀W,Below w.heap.size w W→Calls Tryz.prog 15 #[v] W fun e w'=>e = .returned (.int .i64 (ji M:Nat))∧W=w'):=hid (fun W hB=>LW v M W (hv.below hB))
   have HEL:Hid ((xZ (ji M) (M.map jg)).length=(j4 jc (ji M) (M.map jg)).cols.length):=hid (by
    have hg:=XR (n:=ji M) (R:=qX (M.map jg)) (Xl _) (fun r hr=>by rw[←Jl];exact QT hM r hr);obtain⟨_,_,hq,_,_⟩:=We (R:=qX (M.map jg)) (n:=ji M) (Xl _) (fun r hr=>by rw[←Jl];exact QT hM r hr)
    have hb:(qX (M.map jg)).length=(M.map jg).length:=by simp[qX]
    rw[hb] at hq;unfold xZ;rw[Qar,Qak]
    have:(j4 jc (ji M) (M.map jg)).rows.length=(M.map jg).length:=by unfold j4;rw[Zn];simp[qX]
    unfold j4 at this ⊢
    omega)
   rw[hM] at CI CM;clear MH hS hM hv hG;generalize xZ (ji M) (M.map jg)=E at *;generalize ze (ji M) (M.map jg)=Kr at *;generalize (j4 jc (ji M) (M.map jg)).cols.length=q at *;generalize ji M=n at *;go_enter Tryz.func3,Tryz.ntmps3
   go_wp2_with fail
   refine(AW.out _ (Below.refl _ _)).mono ?_;rintro e w1 ⟨rfl,hB⟩;have HB1:=hid hB;clear hB
   go_wp2_with fail
   refine(SH.out _ HB1.out).mono ?_;rintro e w2 ⟨rfl,hB⟩;have HB2:=hid (bT HB1.out hB);clear hB
   go_wp2_with fail
   refine(CI.out _ HB2.out).mono ?_;rintro e w3 ⟨rfl,hB⟩;have HB3:=hid (bT HB2.out hB);clear hB
   go_wp2_with fail
   refine(EC.out _ HB3.out).mono ?_;rintro e w4 ⟨hB,A4,n4,c4,k4,rfl,hA⟩;have HB4:=hid (bT HB3.out hB);have HA:=hid hA;clear hB hA
   go_wp2_with fail
   refine(RK.out _ HB4.out).mono ?_;rintro e w5 ⟨rfl,hB⟩;have HB5:=hid (bT HB4.out hB);have HA5:=hid (HA.out.below hB);clear hB HA
   go_wp2_with fail
   refine(KC.out _ HB5.out).mono ?_;rintro e w6 ⟨hB,A6,n6,c6,k6,rfl,hK⟩;have HB6:=hid (bT HB5.out hB);have HK:=hid hK;have HA6:=hid (HA5.out.below hB);clear hB hK HA5
   go_wp2_with fail
   refine(CM.out _ HB6.out).mono ?_;rintro e w7 ⟨rfl,hB⟩;have HB7:=hid (bT HB6.out hB);have HK7:=hid (HK.out.below hB);have HA7:=hid (HA6.out.below hB);clear hB HK HA6
   go_wp2_with fail
   refine(RE.out _ HB7.out).mono ?_;rintro e w8 ⟨hB,A8,c8,rfl,hT8,hb8⟩;have HB8:=hid (bT HB7.out hB);have HK8:=hid (HK7.out.below hB);have MA:=hid (Gi (HA7.out.below hB) hT8 hb8);rw[HEL.out] at MA;clear hB HK7 HA7 hT8 hb8;rw[HEL.out]
   go_wp2_with fail
   refine MA.out.mono ?_;rintro e w9 ⟨rfl,hB⟩;have HB9:=hid (bT HB8.out hB);have HK9:=hid (HK8.out.below hB);clear hB HK8 MA
   go_wp2_with fail
   refine(AJ _ _).mono ?_;rintro e w10 ⟨rfl,rfl⟩
   go_wp2_with fail
   refine(WD.out _ HB9.out).mono ?_;rintro e w11 ⟨rfl,rfl⟩
   go_wp2_with fail
   refine(RN.out _ HB9.out).mono ?_;rintro e w12 ⟨hB,A12,c12,rfl,hT12,hb12⟩;have HB12:=hid (bT HB9.out hB);have MK:=hid (Gi (HK9.out.below hB) hT12 hb12);clear hB HK9 hT12 hb12
   go_wp2_with fail
   refine MK.out.mono ?_;rintro e w13 ⟨rfl,hB⟩;have HB13:=hid (bT HB12.out hB);clear hB MK
   go_wp2
   go_ret;exact⟨rfl,HB13.out⟩
  ·have EC:=hid (fun W hB=>(MH W hB).ec_bad hM)
   have KC:=hid (fun W hB=>(MH W hB).kc_bad hM);have RK:=hid (fun W hB=>(MH W hB).rk_bad hM);clear MH hS hv hG;generalize jG M=E at *
   have hb1:(E==0)=false:=by simpa using hM
   have hb2:(E != 0)=true:=by simpa using hM
   have hb3:(E==E)=true:=by simp
   have IB:=hid (fun (W:World)=>AI E 0 W hM);have MB:=hid (fun (W:World)=>BL E W hM);clear hM;go_enter Tryz.func3,Tryz.ntmps3
   go_wp2_with fail
   refine(AW.out _ (Below.refl _ _)).mono ?_;rintro e w1 ⟨rfl,hB⟩;have HB1:=hid hB;clear hB
   go_wp2_with fail
   refine(SH.out _ HB1.out).mono ?_;rintro e w2 ⟨rfl,hB⟩;have HB2:=hid (bT HB1.out hB);clear hB
   go_wp2_with fail
   refine(CI.out _ HB2.out).mono ?_;rintro e w3 ⟨rfl,hB⟩;have HB3:=hid (bT HB2.out hB);clear hB
   go_wp2_with fail
   refine(EC.out _ HB3.out).mono ?_;rintro e w4 ⟨rfl,hB⟩;have HB4:=hid (bT HB3.out hB);clear hB
   go_wp2_with fail
   refine(RK.out _ HB4.out).mono ?_;rintro e w5 ⟨rfl,hB⟩;have HB5:=hid (bT HB4.out hB);clear hB
   go_wp2_with fail
   refine(KC.out _ HB5.out).mono ?_;rintro e w6 ⟨rfl,hB⟩;have HB6:=hid (bT HB5.out hB);clear hB
   go_wp2_with fail
   refine(CM.out _ HB6.out).mono ?_;rintro e w7 ⟨rfl,hB⟩;have HB7:=hid (bT HB6.out hB);clear hB
   go_wp2_with fail
   refine(MB.out _).mono ?_;rintro e w8 ⟨rfl,rfl⟩
   go_wp2_with fail
   refine(IB.out _).mono ?_;rintro e w9 ⟨rfl,rfl⟩
   go_wp2_with fail
   refine(MB.out _).mono ?_;rintro e w10 ⟨rfl,rfl⟩
   go_wp2
   go_ret;exact⟨rfl,HB7.out⟩
 ·rw[Qat hS] at SH
  clear hS hv hG;go_enter Tryz.func3,Tryz.ntmps3
  go_wp2_with fail
  refine(AW.out _ (Below.refl _ _)).mono ?_;rintro e w1 ⟨rfl,hB⟩;have HB1:=hid hB;clear hB
  go_wp2_with fail
  refine(SH.out _ HB1.out).mono ?_;rintro e w2 ⟨rfl,hB⟩;have HB2:=hid (bT HB1.out hB);clear hB
  go_wp2_with fail
  refine(AW.out _ HB2.out).mono ?_;rintro e w3 ⟨rfl,hB⟩;have HB3:=hid (bT HB2.out hB);clear hB
  go_wp2
  go_ret;exact⟨rfl,HB3.out⟩
end Go.Proofs.YteagkgagdelklaaGreatDoor
namespace Go.Proofs.YteagkgagdelklaaGreatDoor
open Go.ChangeShapes Go.WideShapes Go.ChangeAt Go.RowKit Go.Lib
theorem C7:ownKnob Tryz.prog.godebug=none:=by kernel_rfl
theorem Bj:laidOutB Tryz.prog=true:=by kernel_rfl
theorem D4:Tryz.prog.globalNamed "internal/strconv.uint64pow10" =some 5:=by kernel_rfl
theorem Pk:(Tryz.prog.globals[5]?).map (·.type)=some 272:=by kernel_rfl
theorem TF:Tryz.prog.cellsOf 89=1:=by kernel_rfl
theorem TD:Tryz.prog.cellsOf 272=20:=by kernel_rfl
def JF:List (String×DataW Unit):=[("math/bits.deBruijn32tab",Rows.laid_math_bits_deBruijn32tab),("math/bits.deBruijn64tab",Rows.laid_math_bits_deBruijn64tab),("internal/strconv.uint64pow10",Rows.laid_internal_strconv_uint64pow10),("strconv.ErrRange",Rows.laid_strconv_ErrRange),("strconv.ErrSyntax",Rows.laid_strconv_ErrSyntax)]
theorem Y1 {W:World} {b o:Nat} {v:Value} (h:W.cell? ⟨b,o,none⟩=some v):b<W.heap.size:=by
 rcases Qae b W.heap.size with h1 | h1
 ·exact h1
 ·rw[World.cell?] at h
  have h2:W.heap[b]? =none:=Array.getElem?_eq_none h1;simp[h2] at h
theorem Ad {W:World} (h:laidMetH Tryz.prog JF W) (hsh:W.ShapedOpen Tryz.prog):jK W:=by
 have h2:=laidMetH.filter (fun x=>x.1 == "internal/strconv.uint64pow10") h
 have e:JF.filter (fun x=>x.1 == "internal/strconv.uint64pow10")=[("internal/strconv.uint64pow10",tabData .u64 pow10Tab)]:=by kernel_rfl
 rw[e,MakeChecks.laidMetH_plain _ _ _ (by kernel_rfl)] at h2;have ht:TabIs Tryz.prog W "internal/strconv.uint64pow10" .u64 pow10Tab:=tabIs_of_head D4 Pk Tryz.underlying272 Tryz.underlying89 TF TD h2;obtain⟨m,hm⟩:=cell_of_shapedOpen_int (g:=2) (t:=3) (zero:= #[.int .i64 0]) hsh (QaL (by kernel_rfl)) (by kernel_rfl) rfl (by kernel_rfl) (by kernel_rfl) Tryz.underlying3;refine⟨tabBelow_of_tabIs ht,m,?_,hm⟩;exact Y1 hm
theorem N5 (os:Os) (args:Array Value):laidMetH Tryz.prog JF ((World.doorLaid Tryz.prog 400 os).forCall (fun _ _=>0) ⟨#[],args,[]⟩).memory:=
 laidMetH_of_parts3 (fuel:=8) (laidMet_of_run' 8 (by kernel_rfl) (by kernel_rfl)) (by kernel_rfl) (by kernel_rfl)
theorem L9 {H:Type} {enc:TypeId×Value→H} {os:Os} {f:FuncId} {fn:Func} {s:ChangeSpec} (started:os.Started) (noInit:Tryz.checked.prog.inits.idxOf? f=none) (hfn:Tryz.checked.prog.funcs[f]? =some fn)
  (witness:∃(w:World) (tape:Tape) (i:Input),w.os=os∧(w.forCall tape i).Shaped Tryz.checked.prog∧i.vars=[]∧Input.okWide Tryz.checked.prog (w.forCall tape i) .any w.heap.size f i ∧
   ((s.pre enc Tryz.checked.prog fn [] false (w.forCall tape i).memory i.args∧laidMetH Tryz.prog JF (w.forCall tape i).memory)∧sizedMet enc Tryz.checked.prog fn (OpenSpec.ofChange s) false (w.forCall tape i).memory i.args)∧({} :Assume).holds Tryz.checked.prog (lone (Frame.enter Tryz.checked.prog f i.args .normal) [] (w.forCall tape i)))
  (contract:∀(W:World) (base:Nat) (args:Array Value) (ds gs:List (DataW H)) (before:List MemPlace),
   (∀(j:Nat) t v,fn.params[j]? =some t→args[j]? =some v→Value.okWide Tryz.prog W .any base t v) →
   DataW.Whole enc Tryz.prog fn.params.toList s.vars false W args.toList ds gs before →
   (DataW.weightsEach Tryz.prog (fn.params.toList++s.plain.varTypes Tryz.prog) (ds++gs)).all (· ≤reachBytes)=true →
   jK W→Calls Tryz.prog f args W fun e W'=>∃v,e = .returned v∧s.post enc Tryz.prog fn false true false false W args v W'):
  ReturnsInHanded {} Tryz.checked os f .any (fun w args=>(s.pre enc Tryz.checked.prog fn [] false w args∧laidMetH Tryz.prog JF w)∧sizedMet enc Tryz.checked.prog fn (OpenSpec.ofChange s) false w args) (s.post enc Tryz.checked.prog fn false true false false):=by
 refine returnsInHanded_of_calls (C:=Tryz.checked) C7 started noInit witness ?_;intro w tape i _ hsh _ hok hpre _;obtain⟨_,_,_,fn',hfn',_,_,_,_,hval⟩:=hok;have e:fn'=fn:=QaE (hfn'.symm.trans hfn);subst e;obtain⟨⟨⟨ds,gs,before,hw,hc⟩,hx⟩,hz⟩:=hpre;have hw':=DataW.Whole.of_heap (w':=w.forCall tape i) (by rfl) hw;have hL:laidMetH Tryz.prog JF (w.forCall tape i):=laidMetH.of_heap (by rfl) hx
 refine(contract (w.forCall tape i) w.heap.size i.args ds gs before hval hw' (hz.weights hw) (Ad hL hsh)).mono fun e W' ⟨v,he,hp⟩=> ?_
 subst he;exact ChangeSpec.post_blind hp
theorem TE:Tryz.prog.cellsOf 50=1:=by kernel_rfl
theorem Ty:Tryz.prog.bytesOf 50=24:=by kernel_rfl
theorem Vx:Tryz.prog.cellsOf 37=1:=by kernel_rfl
theorem Tz:Tryz.prog.bytesOf 37=16:=by kernel_rfl
theorem Pb (s:ByteArray):s=⟨s.data.toList.toArray⟩:=by cases s;simp
theorem CX {H:Type} {enc:TypeId×Value→H} {W:World} {a0:Option Addr} {len cap fuel:Nat} {x:DataW H×List MemPlace} (hf:DataW.trod enc Tryz.prog W 0 (fun _=>true) true fuel 50 [.slice a0 len cap]=some x)
  (hw:∀elems spare,x.1 = .slice elems spare→(elems.length+spare.length)*16≤reachBytes):∃L:List jl,jD W (.slice a0 len cap) (jN L):=by
 rcases Go.Deep.open_strs Tryz.underlying50 Tryz.underlying37 Vx hf with ⟨hcs,hx⟩ | ⟨a,len',cap',m,Sx,hcs,_,hl,hm,hmm,hx,hcell⟩
 ·simp at hcs
  obtain⟨rfl,rfl,rfl⟩:=hcs;exact⟨[],Sl.nil.wide⟩
 ·simp at hcs
  obtain⟨rfl,rfl,rfl⟩:=hcs;simp only[if_true] at hmm;subst hmm;have hsz:=hw _ _ (by rw[hx]);simp only[Qar,List.length_range,reachBytes] at hsz;obtain⟨b,off,spot⟩:=a
  have hll:(jN ((List.range len).map fun i=>(Sx i).data.toList)).length=len:=by rw[kT];simp
  refine⟨(List.range len).map fun i=>(Sx i).data.toList,some ⟨b,off,spot⟩,m,by rw[hll],by rw[hll];exact hl,by rw[hll];omega,fun h0=> ?_⟩;rw[hll] at h0
  have hspot:spot=none:=by simpa [Addr.add] using World.cell?_spot (hcell 0 (by omega)).1
  subst hspot;have h00:=(hcell 0 (by omega)).1;rw[Lib.add_plain] at h00;refine⟨b,off,rfl,Y1 h00,fun j hj=> ?_⟩;rw[hll] at hj;have h1:=(hcell j (by omega)).1;rw[Lib.add_plain] at h1;rw[h1,JM _ j (by simpa using hj)];simp only[Qao,List.getElem?_range hj,QaC,Qbl];unfold sv;rw[←Pb]
theorem CU {H:Type} {enc:TypeId×Value→H} {W:World} {a0:Option Addr} {len cap fuel:Nat} {x:DataW H×List MemPlace} (hf:DataW.trod enc Tryz.prog W 0 (fun _=>true) true fuel 22 [.slice a0 len cap]=some x)
  (hw:∀n∈x.1.weights Tryz.prog 22,n≤reachBytes):∃M,jT W (.slice a0 len cap) M:=by
 rcases Go.Deep.open_slice1 Tryz.underlying22 TE hf with ⟨hcs,hx⟩ | ⟨a,len',cap',m,n,V,D,Pl,hcs,_,hl,hm,hmm,hx,hall⟩
 ·simp at hcs
  obtain⟨rfl,rfl,rfl⟩:=hcs;exact⟨[],[],Sl.nil.wide,rfl,fun i r h=>by simp at h⟩
 ·simp at hcs
  obtain⟨rfl,rfl,rfl⟩:=hcs;simp only[if_true] at hmm;subst hmm
  have hx1:x.1 = .slice ((List.range len).map D) ((List.range (m-len)).map fun j=>D (len+j)):=by rw[hx]
  rw[hx1] at hw
  have hcap:m≤140737488355328:=by
   have:=hw ((((List.range len).map D).length+((List.range (m-len)).map fun j=>D (len+j)).length)*Tryz.prog.bytesOf 50) (by simp[DataW.weights,Tryz.underlying22]);rw[Ty] at this;simp[reachBytes] at this;omega
  have hrow:∀i,i<len → ∃L:List jl,jD W (V i) (jN L):=by
   intro i hi;obtain⟨_,ht⟩:=hall i (by omega)
   have hwi:∀n∈(D i).weights Tryz.prog 50,n≤reachBytes:=fun n hn=>hw n (by
    have hm:D i∈(List.range len).map D:=Qa1 (List.mem_range.2 hi);have:=EP hn hm;simp[DataW.weights,Tryz.underlying22]
    exact .inr (.inl this))
   have hV:∃b l c,V i = .slice b l c:=by
    rcases Go.Deep.open_strs Tryz.underlying50 Tryz.underlying37 Vx ht with ⟨hcs,_⟩ | ⟨b,l,c,m,Sx,hcs,_⟩
    ·exact⟨none,0,0,by simpa using hcs⟩
    ·exact⟨some b,l,c,by simpa using hcs⟩
   obtain⟨b,l,c,hVi⟩:=hV;rw[hVi] at ht ⊢;refine CX ht (fun elems spare hd=> ?_)
   have:=hwi ((elems.length+spare.length)*Tryz.prog.bytesOf 37) (by
    have hd':D i = .slice elems spare:=hd
    rw[hd'];simp[DataW.weights,Tryz.underlying50])
   rwa [Tz] at this
  obtain⟨f,hfr⟩:=Go.Deep.choose_lt (α:=List jl) hrow;obtain⟨b,off,spot⟩:=a;refine⟨(List.range len).map f,(List.range len).map V,⟨some ⟨b,off,spot⟩,m,by simp,by simp;exact hl,by simp;omega,fun h0=> ?_⟩,by simp,fun i r hr=> ?_⟩
  ·rw[Qar,List.length_range] at h0
   have hspot:spot=none:=by simpa [Addr.add] using World.cell?_spot (hall 0 (by omega)).1
   subst hspot;have h00:=(hall 0 (by omega)).1;rw[Lib.add_plain] at h00;refine⟨b,off,rfl,Y1 h00,fun j hj=> ?_⟩;rw[Qar,List.length_range] at hj;have h1:=(hall j (by omega)).1;rw[Lib.add_plain] at h1;rw[h1];simp[hj]
  ·have hi:i<len:=by
    have:=(List.getElem?_eq_some_iff.1 hr).1;simpa using this
   have hr':f i=r:=by simpa [hi] using hr
   exact⟨V i,by simp[hi],by rw[←hr'];exact hfr i hi⟩
