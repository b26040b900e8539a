/- The division of two words by one, where the first word is not 0. -/
import Derived.Test.YteagkgagdelklaaGreatDoorZT26
import Derived.Test.YteagkgagdelklaaGreatDoorZSi
set_option maxRecDepth 100000
set_option maxHeartbeats 4000000
namespace Go.Proofs.YteagkgagdelklaaGreatDoor
open Go.RowKit Go.Lib
theorem XW {y:Nat} (h0:0<y) (h1:y<WB):1≤Lib.bitLen y∧Lib.bitLen y≤64∧2^(Lib.bitLen y-1)≤y∧y<2^Lib.bitLen y:=by
 have h:=Lib.bitLenAux_bounds 64 y (by unfold WB at h1;exact h1) (by omega);exact⟨h.1,Lib.bitLen_le y 64 (Nat.le_refl _) (by unfold WB at h1;exact h1),h.2⟩
structure YM (hi lo y s Y v1 v2 top u1 u0 un:Nat):Prop where
 eY:Y=y*2^s
 wY:IntKind.u64.wrap ((y:Int)*2^s)=(Y:Int)
 d1:(Y:Int)/4294967296=(v1:Int)
 d2:bits .and .u64 (Y:Int) 4294967295=(v2:Int)
 wL:IntKind.u64.wrap ((lo:Int)*2^s)=(un:Int)
 d3:(un:Int)/4294967296=(u1:Int)
 d4:bits .and .u64 (un:Int) 4294967295=(u0:Int)
 or_:bits .or .u64 (IntKind.u64.wrap ((hi:Int)*2^s)) ((lo:Int)/2^(64-s))=(top:Int)
 yv:Y=v1*BH+v2
 v2lt:v2<BH
 v1lt:v1<BH
 norm:BH≤2*v1
 u1lt:u1<BH
 u0lt:u0<BH
 eN:(hi*WB+lo)*2^s=(top*BH+u1)*BH+u0
 lt:top*BH+u1<BH*Y
 ylt:Y<WB
 tlt:top<WB
theorem wrap_u64 (n:Nat) (h:n<WB):IntKind.u64.wrap (n:Int)=(n:Int):=by
 have:IntKind.u64.wrap (n:Int)=(n:Int)%18446744073709551616:=rfl;rw[this];unfold WB at h;omega
theorem N7 {hi lo y s L:Nat} (h1:hi<y) (h2:lo<WB) (hs:s+L=64) (l1:1≤L) (l3:2^(L-1)≤y) (l4:y<2^L):∃Y v1 v2 top u1 u0 un:Nat,YM hi lo y s Y v1 v2 top u1 u0 un:=by
 have hP:0<2^s:=Qbs s;have hD:0<2^(64-s):=Qbs _
 have hPD:2^(64-s)*2^s=WB:=by rw[←Qbj,show 64-s+s=64 by omega]
 have hL:L=64-s:=by omega
 have cP:((2:Int)^s)=((2^s:Nat):Int):=by simp
 have cD:((2:Int)^(64-s))=((2^(64-s):Nat):Int):=by simp
 have hlow:2^63≤y*2^s:=by
  have e:2^(L-1)*2^s=2^63:=by rw[←Qbj,show L-1+s=63 by omega]
  rw[←e];exact Qas _ l3
 have hup:y*2^s<WB:=by rw[←hPD,←hL];exact Qba l4 hP
 have hhi:hi*2^s<y*2^s:=Qba h1 hP;have hdv:lo/2^(64-s)<2^s:=QbT (by rw[hPD];exact h2)
 have hmd:lo*2^s/WB=lo/2^(64-s):=by rw[←hPD];exact Nat.mul_div_mul_right _ _ hP
 have hor:hi*2^s ||| lo/2^(64-s)=hi*2^s+lo/2^(64-s):=by
  rw[Qam hi];exact(Qch hdv hi).symm
 have hN:(hi*WB+lo)*2^s<y*2^s*WB:=by
  have a:hi*WB+lo<y*WB:=by
   have:(hi+1)*WB≤y*WB:=Qas _ h1;rw[Qaz] at this;omega
  have b:=Qba a hP;rw[Qal,Qam WB,←Qal] at b;exact b
 have eN0:(hi*WB+lo)*2^s=(hi*2^s+lo/2^(64-s))*WB+lo*2^s%WB:=by
  have:=QaP (lo*2^s) WB;rw[hmd] at this;rw[Qaz,Qaz,Qal,Qam WB (2^s),←Qal,Qam (lo/_) WB];omega
 have hunlt:lo*2^s%WB<WB:=QaI _ (by decide)
 have htop:hi*2^s+lo/2^(64-s)<WB:=by
  rcases Qae (hi*2^s+lo/2^(64-s)) (y*2^s) with h | h
  ·omega
  ·have:=Qas WB h
   omega
 have eL:IntKind.u64.wrap ((lo:Int)*2^s)=((lo*2^s%WB:Nat):Int):=by
  rw[cP,←QaM];generalize lo*2^s=z;have:IntKind.u64.wrap (z:Int)=(z:Int)%18446744073709551616:=rfl;rw[this];unfold WB;omega
 generalize hun:lo*2^s%WB=un at *;generalize hdd:lo/2^(64-s)=dd at *;generalize hY:y*2^s=Y at *;generalize hH:hi*2^s=H at *;refine⟨Y,Y/BH,Y%BH,H+dd,un/BH,un%BH,un,hY.symm,by rw[cP,←QaM,hY];exact wrap_u64 _ hup,by unfold BH;omega,?_,eL,by unfold BH;omega,?_,?_,?_,QaI _ (by decide),?_,?_,?_,QaI _ (by decide),?_,?_,hup,htop⟩
 ·have:=bits_and_u64_nat Y 4294967295 hup (by decide)
  rw[show ((4294967295:Nat):Int)=4294967295 from rfl] at this;rw[this,show (4294967295:Nat)=2^32-1 from rfl,Nat.and_two_pow_sub_one_eq_mod];rfl
 ·have:=bits_and_u64_nat un 4294967295 hunlt (by decide)
  rw[show ((4294967295:Nat):Int)=4294967295 from rfl] at this;rw[this,show (4294967295:Nat)=2^32-1 from rfl,Nat.and_two_pow_sub_one_eq_mod];rfl
 ·rw[cP,cD,←QaM,hH,wrap_u64 H (by omega),←Qbn,hdd,bits_or_u64_nat H dd (by unfold WB at *;omega) (by unfold WB at *;omega),hor]
 ·have:=QaP Y BH;rw[Qam] at this;omega
 ·exact QbT (by rw[←zZ];exact hup)
 ·unfold BH;omega
 ·exact QbT (by rw[←zZ];exact hunlt)
 ·rw[eN0,zZ,←Qal,Qaz ((H+dd)*BH),Qb9]
  have:=QaP un BH;rw[Qam] at this;omega
 ·have a:((H+dd)*BH+un/BH)*BH<(BH*Y)*BH:=by
   have e:(BH*Y)*BH=Y*WB:=by rw[zZ,Qam BH Y,Qal]
   have b:((H+dd)*BH+un/BH)*BH+un%BH=(H+dd)*WB+un:=by
    rw[zZ,←Qal,Qaz ((H+dd)*BH),Qb9];have:=QaP un BH;rw[Qam] at this;omega
   rw[e];omega
  exact Nat.lt_of_mul_lt_mul_right a
theorem jM (n:Int):IntKind.u64.wrap n=n%18446744073709551616:=rfl
section
variable {hi lo y s Y v1 v2 top u1 u0 un T t z q r:Nat}
theorem Zj (D:YM hi lo y s Y v1 v2 top u1 u0 un) (hE:T*(v1*BH+v2)≤top*BH+u1∧top*BH+u1<(T+1)*(v1*BH+v2)):
  ∃z a1 a2 a3:Nat,top*BH+u1=T*Y+z∧z<Y∧IntKind.u64.wrap ((top:Int)*4294967296)=(a1:Int)∧IntKind.u64.wrap ((a1:Int)+(u1:Int))=(a2:Int)∧IntKind.u64.wrap ((T:Int)*(Y:Int))=(a3:Int)∧IntKind.u64.wrap ((a2:Int)-(a3:Int))=(z:Int):=by
 rw[←D.yv,Qaz,Qbd] at hE;have hy:=D.ylt;rw[←QaM];generalize T*Y=p at *;obtain⟨h1,h2⟩:=hE;unfold BH at *;unfold WB at *;refine⟨top*4294967296+u1-p,top*4294967296%18446744073709551616,(top*4294967296%18446744073709551616+u1)%18446744073709551616,p%18446744073709551616,by omega,by omega,by rw[jM];omega,by rw[jM];omega,by rw[jM];omega,by rw[jM];omega⟩
theorem Zi (e:Y=v1*BH+v2) (hz:z<Y) (hu:u0<BH):z*BH+u0<BH*(v1*BH+v2):=by
 rw[←e];have:(z+1)*BH≤Y*BH:=Qas _ hz;rw[Qaz,Qam Y BH] at this;omega
theorem Ja (D:YM hi lo y s Y v1 v2 top u1 u0 un) (h4:hi*WB+lo=q*y+r) (h5:r<y) (hz:top*BH+u1=T*Y+z) (hE:t*(v1*BH+v2)≤z*BH+u0∧z*BH+u0<(t+1)*(v1*BH+v2)) (hT:T<BH) (ht:t<BH):
  IntKind.u64.wrap (IntKind.u64.wrap ((T:Int)*4294967296)+(t:Int))=(q:Int)∧IntKind.u64.wrap (IntKind.u64.wrap (IntKind.u64.wrap ((z:Int)*4294967296)+(u0:Int))-IntKind.u64.wrap ((t:Int)*(Y:Int)))/2^s=(r:Int):=by
 rw[←D.yv,Qaz,Qbd] at hE;have hP:0<2^s:=Qbs s;obtain⟨g1,g2⟩:=N6 (q1:=T) (q0:=t) (b:=z*BH+u0-t*Y) D.eN D.eY hP hz (by omega) (by omega) h4 h5;have hy:=D.ylt;constructor
 ·rw[jM,jM]
  unfold BH at *;omega
 ·rw[←QaM]
  have e:IntKind.u64.wrap (IntKind.u64.wrap (IntKind.u64.wrap ((z:Int)*4294967296)+(u0:Int))-IntKind.u64.wrap ((t*Y:Nat):Int))=((z*BH+u0-t*Y:Nat):Int):=by
   generalize t*Y=p at *;simp only[jM];obtain⟨h1,h2⟩:=hE;unfold BH at *;unfold WB at *;omega
  rw[e,show ((2:Int)^s)=((2^s:Nat):Int) by simp,←Qbn,g2]
end
theorem XH {top v1:Nat} (hv:0<v1) (ht:top<WB):(top:Int)/(v1:Int)=((top/v1:Nat):Int)∧IntKind.u64.wrap (((top/v1:Nat):Int)*(v1:Int))=((top/v1*v1:Nat):Int)∧IntKind.u64.wrap ((top:Int)-((top/v1*v1:Nat):Int))=((top%v1:Nat):Int)∧top%v1<v1∧IntKind.u64.wrap ((top/v1:Nat):Int)=((top/v1:Nat):Int):=by
 have h1:=QaP top v1;rw[Qam] at h1;have h2:=QaI top hv;refine⟨by rw[Qbn],?_,?_,h2,wrap_u64 _ (Qax (QaW _ _) ht)⟩
 ·rw[←QaM];exact wrap_u64 _ (by omega)
 ·rw[show (top:Int)-((top/v1*v1:Nat):Int)=((top%v1:Nat):Int) by omega]
  exact wrap_u64 _ (by omega)
theorem NI (hi lo y q r:Nat) (w:World) (h0:0<hi) (h1:hi<y) (h2:lo<WB) (h3:y<WB) (h4:hi*WB+lo=q*y+r) (h5:r<y):
  Calls Tryz.prog 144 #[.int .u64 hi,.int .u64 lo,.int .u64 y] w fun e w'=>e = .returned (.tuple #[.int .u64 q,.int .u64 r]) ∧ ∃n,w'=w.drewN n:=by
 have hy0:((y:Int)==0)=false:=by simpa using (by omega:¬(y:Int)=0)
 have hyh:¬((y:Int)≤(hi:Int)):=by omega
 have hh0:((hi:Int)==0)=false:=by simpa using (by omega:¬(hi:Int)=0)
 have LZ:=hid (Tryz.bits_LeadingZeros64 (y:Int) w (by omega) (by unfold WB at h3;omega));rw[Qcl] at LZ;obtain⟨l1,l2,l3,l4⟩:=XW (by omega) h3
 obtain⟨s,hs⟩:∃s:Nat,s+Lib.bitLen y=64:=⟨64-Lib.bitLen y,by omega⟩
 have hse:(64:Int)-(Lib.bitLen y:Int)=(s:Int):=by omega
 rw[hse] at LZ
 have hs64:s<64:=by omega
 obtain⟨Y,v1,v2,top,u1,u0,un,D⟩:=N7 h1 h2 hs l1 l3 l4;have HD:=hid D;have H4:=hid h4;have wY:=D.wY;have d1:=D.d1;have d2:=D.d2;have wL:=D.wL;have d3:=D.d3;have d4:=D.d4;have or_:=D.or_
 have hv1:0<v1:=by have:=D.norm;unfold BH at this;omega
 have hv1z:¬(v1:Int)=0:=by omega
 obtain⟨e1,e2,e3,e4,e5⟩:=XH hv1 D.tlt;have HK:=hid (XU D.v2lt D.u1lt (by rw[←D.yv];exact D.lt) D.norm);have HI0:=hid HK.out.start;have hv1b:=D.v1lt;unfold BH at hv1b;have Hr0:Hid (top%v1<4294967296):=hid (by omega);have Ht0:Hid (top/v1<WB):=hid (Qax (QaW _ _) D.tlt);clear h4 D hse hs l1 l2 l3 l4;generalize top/v1*v1=p0 at *;generalize top/v1=t0 at *;generalize top%v1=r0 at *;go_enter Tryz.func144,Tryz.ntmps144
 go_wp2_with fail
 refine LZ.out.mono ?_;rintro e w1 ⟨rfl,rfl⟩;clear LZ
 go_wp2_with fail
 go_loopg [15,16] (t0+1) (fun gh q1 rh wx=>∃t rr:Nat,q1 = .int .u64 t∧rh = .int .u64 rr∧t+1≤gh∧rr<4294967296∧Hid (yh top v1 (top*BH+u1) (v1*BH+v2) t rr)∧Hid (t<WB)∧w1=wx)
 case atStart=>exact⟨t0,r0,rfl,rfl,Nat.le_refl _,Hr0.out,HI0,Ht0,rfl⟩
 case round=>
  obtain⟨t,rr,rfl,rfl,ht,hrr,hI,Htb,rfl⟩:=hrel
  --ROUND1
  by_cases hb:4294967296≤t
  ·have hbI:(4294967296:Int)≤(t:Int):=by omega
   obtain⟨t',het,hI2⟩:=HK.out.down hI.out (.inl (by unfold BH;omega));have HI2:=hid hI2;have HIo:=hid hI.out
   have wa:IntKind.u64.wrap ((t:Int)-1)=(t':Int):=by
    rw[show (t:Int)-1=(t':Int) by omega];exact wrap_u64 _ (by have:=Htb.out;omega)
   have wb:IntKind.u64.wrap ((rr:Int)+(v1:Int))=((rr+v1:Nat):Int):=by
    rw[←QaG];exact wrap_u64 _ (by unfold WB;omega)
   clear hI hI2;by_cases hr2:4294967296≤rr+v1
   ·have hr3:(4294967296:Int)≤((rr+v1:Nat):Int):=by omega
    have hF:=hid (HK.out.exit_far (het ▸ HIo.out) HI2.out (by unfold BH;omega));have hE:=hid (yJ HI2.out (HK.out.far (show BH≤rr+v1 by unfold BH;omega) hF.out.1));have HTb:=hid hF.out.1;have Hrr:=hid (And.intro hrr (And.intro hr2 (And.intro het ht)))
    try have Hb:=hid hb
    try clear hb
    clear hrr hr2 het ht hF;generalize rr+v1=r2 at wb hr3;obtain⟨z,a1,a2,a3,hz,hzl,m1,m2,m3,m4⟩:=Zj HD.out hE.out;have HT:=hid hz;have HT1:=hid HTb.out;obtain⟨e1,e2,e3,e4,e5⟩:=XH hv1 (show z<WB by have:=HD.out.ylt;omega);have HK2:=hid (XU HD.out.v2lt HD.out.u0lt (Zi HD.out.yv hzl HD.out.u0lt) HD.out.norm);have HI20:=hid HK2.out.start;have Hr1:Hid (z%v1<4294967296):=hid (by omega);have Ht1:Hid (z/v1<WB):=hid (Qax (QaW _ _) (by have:=HD.out.ylt;omega));clear hz hzl hE HTb;generalize z/v1*v1=p1 at *;generalize z/v1=t1 at *;generalize z%v1=r1 at *
    go_wp2_with fail
    go_loopg [16,18] (t1+1) (fun gh rh q1 wx=>∃t rr:Nat,q1 = .int .u64 t∧rh = .int .u64 rr∧t+1≤gh∧rr<4294967296∧Hid (yh z v1 (z*BH+u0) (v1*BH+v2) t rr)∧Hid (t<WB)∧w1=wx)
    case atStart=>exact⟨t1,r1,rfl,rfl,Nat.le_refl _,Hr1.out,HI20,Ht1,rfl⟩
    case round=>
     obtain⟨t,rr,rfl,rfl,ht,hrr,hI,Htb,rfl⟩:=hrel;by_cases hb:4294967296≤t
     ·have hbI:(4294967296:Int)≤(t:Int):=by omega
      obtain⟨t',het,hI2⟩:=HK2.out.down hI.out (.inl (by unfold BH;omega));have HI2:=hid hI2;have HIo:=hid hI.out
      have wa:IntKind.u64.wrap ((t:Int)-1)=(t':Int):=by
       rw[show (t:Int)-1=(t':Int) by omega];exact wrap_u64 _ (by have:=Htb.out;omega)
      have wb:IntKind.u64.wrap ((rr:Int)+(v1:Int))=((rr+v1:Nat):Int):=by
       rw[←QaG];exact wrap_u64 _ (by unfold WB;omega)
      clear hI hI2;by_cases hr2:4294967296≤rr+v1
      ·have hr3:(4294967296:Int)≤((rr+v1:Nat):Int):=by omega
       have hF:=hid (HK2.out.exit_far (het ▸ HIo.out) HI2.out (by unfold BH;omega));have hE:=hid (yJ HI2.out (HK2.out.far (show BH≤rr+v1 by unfold BH;omega) hF.out.1));have HTb:=hid hF.out.1;have Hrr:=hid (And.intro hrr (And.intro hr2 (And.intro het ht)))
       try have Hb:=hid hb
       try clear hb
       clear hrr hr2 het ht hF;generalize rr+v1=r2 at wb hr3;obtain⟨g1,g2⟩:=Ja HD.out H4.out h5 HT.out hE.out HT1.out HTb.out
       go_wp2
       go_ret2;refine⟨zi ?_ ?_,0,rfl⟩
       ·first
         | rfl
         | exact g1
         | (have h1:=HT1.out;have h2:=HTb.out;unfold BH at h1 h2;rw[jM,jM] at g1;rw[jM];omega)
         | (have h1:=HT1.out;have h2:=HTb.out;unfold BH at h1 h2;rw[jM,jM] at g1;omega)
       ·first
         | rfl
         | exact g2
         | (refine Eq.trans ?_ g2;congr 1;simp only[jM];omega)
       --t'
      ·have hr3:¬(4294967296:Int)≤((rr+v1:Nat):Int):=by omega
       cases gk with
       | zero=>exact absurd ht (by omega)
       | succ gh=>
        have Htb2:Hid (t'<WB):=hid (by have:=Htb.out;omega);have Hrel:Hid (t'+1≤gh∧rr+v1<4294967296):=hid ⟨by omega,by omega⟩;clear hrr hr2 het ht
        try clear hb
        generalize rr+v1=r2 at *
        go_wp2
        go_roundg gh
        case rel=>exact⟨t',r2,by go_num,by go_num,Hrel.out.1,Hrel.out.2,HI2,Htb2,rfl⟩
        case measure=>omega
     ·have hbI:¬(4294967296:Int)≤(t:Int):=by omega
      have hm:t*v2<WB:=by rw[zZ];exact Qcc (by unfold BH;omega) HD.out.v2lt
      have wm:IntKind.u64.wrap ((t:Int)*(v2:Int))=((t*v2:Nat):Int):=by rw[←QaM];exact wrap_u64 _ hm
      have hu:=HD.out.u0lt;unfold BH at hu
      have wr2:IntKind.u64.wrap (4294967296*(rr:Int))=((4294967296*rr:Nat):Int):=by
       rw[show 4294967296*(rr:Int)=((4294967296*rr:Nat):Int) by omega];exact wrap_u64 _ (by unfold WB;omega)
      have ws:IntKind.u64.wrap (((4294967296*rr:Nat):Int)+(u0:Int))=((4294967296*rr+u0:Nat):Int):=by
       rw[←QaG];exact wrap_u64 _ (by unfold WB;omega)
      by_cases hc:4294967296*rr+u0<t*v2
      ·have hcI:((4294967296*rr+u0:Nat):Int)<((t*v2:Nat):Int):=by omega
       have HW:Hid (BH≤t∨rr*BH+u0<t*v2):=hid (.inr (by unfold BH;omega));generalize hpe:t*v2=pp at wm hcI;generalize hme:4294967296*rr+u0=mm at ws hcI;generalize hne:4294967296*rr=nn at wr2 ws;have Hx:=hid (And.intro hpe (And.intro hme hne));clear hpe hme hne hc hm;obtain⟨t',het,hI2⟩:=HK2.out.down hI.out (HW.out);have HI2:=hid hI2;have HIo:=hid hI.out
       have wa:IntKind.u64.wrap ((t:Int)-1)=(t':Int):=by
        rw[show (t:Int)-1=(t':Int) by omega];exact wrap_u64 _ (by have:=Htb.out;omega)
       have wb:IntKind.u64.wrap ((rr:Int)+(v1:Int))=((rr+v1:Nat):Int):=by
        rw[←QaG];exact wrap_u64 _ (by unfold WB;omega)
       clear hI hI2;by_cases hr2:4294967296≤rr+v1
       ·have hr3:(4294967296:Int)≤((rr+v1:Nat):Int):=by omega
        have hF:=hid (HK2.out.exit_far (het ▸ HIo.out) HI2.out (by unfold BH;omega));have hE:=hid (yJ HI2.out (HK2.out.far (show BH≤rr+v1 by unfold BH;omega) hF.out.1));have HTb:=hid hF.out.1;have Hrr:=hid (And.intro hrr (And.intro hr2 (And.intro het ht)))
        try have Hb:=hid hb
        try clear hb
        clear hrr hr2 het ht hF;generalize rr+v1=r2 at wb hr3;obtain⟨g1,g2⟩:=Ja HD.out H4.out h5 HT.out hE.out HT1.out HTb.out
        go_wp2
        go_ret2;refine⟨zi ?_ ?_,0,rfl⟩
        ·first
          | rfl
          | exact g1
          | (have h1:=HT1.out;have h2:=HTb.out;unfold BH at h1 h2;rw[jM,jM] at g1;rw[jM];omega)
          | (have h1:=HT1.out;have h2:=HTb.out;unfold BH at h1 h2;rw[jM,jM] at g1;omega)
        ·first
          | rfl
          | exact g2
          | (refine Eq.trans ?_ g2;congr 1;simp only[jM];omega)
        --t'
       ·have hr3:¬(4294967296:Int)≤((rr+v1:Nat):Int):=by omega
        cases gk with
        | zero=>exact absurd ht (by omega)
        | succ gh=>
         have Htb2:Hid (t'<WB):=hid (by have:=Htb.out;omega);have Hrel:Hid (t'+1≤gh∧rr+v1<4294967296):=hid ⟨by omega,by omega⟩;clear hrr hr2 het ht
         try clear hb
         generalize rr+v1=r2 at *
         go_wp2
         go_roundg gh
         case rel=>exact⟨t',r2,by go_num,by go_num,Hrel.out.1,Hrel.out.2,HI2,Htb2,rfl⟩
         case measure=>omega
      ·have hcI:¬((4294967296*rr+u0:Nat):Int)<((t*v2:Nat):Int):=by omega
       have hE:=hid (yJ hI.out (by unfold BH;omega));have HTb:Hid (t<BH):=hid (by unfold BH;omega);have Hb:=hid (And.intro hb (And.intro hrr ht));clear hrr ht;generalize hpe:t*v2=pp at wm hcI;generalize hme:4294967296*rr+u0=mm at ws hcI;generalize hne:4294967296*rr=nn at wr2 ws;have Hx:=hid (And.intro hpe (And.intro hme hne));clear hpe hme hne hc hm hb hu;obtain⟨g1,g2⟩:=Ja HD.out H4.out h5 HT.out hE.out HT1.out HTb.out
       go_wp2
       go_ret2;refine⟨zi ?_ ?_,0,rfl⟩
       ·first
         | rfl
         | exact g1
         | (have h1:=HT1.out;have h2:=HTb.out;unfold BH at h1 h2;rw[jM,jM] at g1;rw[jM];omega)
         | (have h1:=HT1.out;have h2:=HTb.out;unfold BH at h1 h2;rw[jM,jM] at g1;omega)
       ·first
         | rfl
         | exact g2
         | (refine Eq.trans ?_ g2;congr 1;simp only[jM];omega)
       --t
   ·have hr3:¬(4294967296:Int)≤((rr+v1:Nat):Int):=by omega
    cases gk with
    | zero=>exact absurd ht (by omega)
    | succ gh=>
     have Htb2:Hid (t'<WB):=hid (by have:=Htb.out;omega);have Hrel:Hid (t'+1≤gh∧rr+v1<4294967296):=hid ⟨by omega,by omega⟩;clear hrr hr2 het ht
     try clear hb
     generalize rr+v1=r2 at *
     go_wp2
     go_roundg gh
     case rel=>exact⟨t',r2,by go_num,by go_num,Hrel.out.1,Hrel.out.2,HI2,Htb2,rfl⟩
     case measure=>omega
  ·have hbI:¬(4294967296:Int)≤(t:Int):=by omega
   have hm:t*v2<WB:=by rw[zZ];exact Qcc (by unfold BH;omega) HD.out.v2lt
   have wm:IntKind.u64.wrap ((t:Int)*(v2:Int))=((t*v2:Nat):Int):=by rw[←QaM];exact wrap_u64 _ hm
   have hu:=HD.out.u1lt;unfold BH at hu
   have wr2:IntKind.u64.wrap (4294967296*(rr:Int))=((4294967296*rr:Nat):Int):=by
    rw[show 4294967296*(rr:Int)=((4294967296*rr:Nat):Int) by omega];exact wrap_u64 _ (by unfold WB;omega)
   have ws:IntKind.u64.wrap (((4294967296*rr:Nat):Int)+(u1:Int))=((4294967296*rr+u1:Nat):Int):=by
    rw[←QaG];exact wrap_u64 _ (by unfold WB;omega)
   by_cases hc:4294967296*rr+u1<t*v2
   ·have hcI:((4294967296*rr+u1:Nat):Int)<((t*v2:Nat):Int):=by omega
    have HW:Hid (BH≤t∨rr*BH+u1<t*v2):=hid (.inr (by unfold BH;omega));generalize hpe:t*v2=pp at wm hcI;generalize hme:4294967296*rr+u1=mm at ws hcI;generalize hne:4294967296*rr=nn at wr2 ws;have Hx:=hid (And.intro hpe (And.intro hme hne));clear hpe hme hne hc hm;obtain⟨t',het,hI2⟩:=HK.out.down hI.out (HW.out);have HI2:=hid hI2;have HIo:=hid hI.out
    have wa:IntKind.u64.wrap ((t:Int)-1)=(t':Int):=by
     rw[show (t:Int)-1=(t':Int) by omega];exact wrap_u64 _ (by have:=Htb.out;omega)
    have wb:IntKind.u64.wrap ((rr:Int)+(v1:Int))=((rr+v1:Nat):Int):=by
     rw[←QaG];exact wrap_u64 _ (by unfold WB;omega)
    clear hI hI2;by_cases hr2:4294967296≤rr+v1
    ·have hr3:(4294967296:Int)≤((rr+v1:Nat):Int):=by omega
     have hF:=hid (HK.out.exit_far (het ▸ HIo.out) HI2.out (by unfold BH;omega));have hE:=hid (yJ HI2.out (HK.out.far (show BH≤rr+v1 by unfold BH;omega) hF.out.1));have HTb:=hid hF.out.1;have Hrr:=hid (And.intro hrr (And.intro hr2 (And.intro het ht)))
     try have Hb:=hid hb
     try clear hb
     clear hrr hr2 het ht hF;generalize rr+v1=r2 at wb hr3;obtain⟨z,a1,a2,a3,hz,hzl,m1,m2,m3,m4⟩:=Zj HD.out hE.out;have HT:=hid hz;have HT1:=hid HTb.out;obtain⟨e1,e2,e3,e4,e5⟩:=XH hv1 (show z<WB by have:=HD.out.ylt;omega);have HK2:=hid (XU HD.out.v2lt HD.out.u0lt (Zi HD.out.yv hzl HD.out.u0lt) HD.out.norm);have HI20:=hid HK2.out.start;have Hr1:Hid (z%v1<4294967296):=hid (by omega);have Ht1:Hid (z/v1<WB):=hid (Qax (QaW _ _) (by have:=HD.out.ylt;omega));clear hz hzl hE HTb;generalize z/v1*v1=p1 at *;generalize z/v1=t1 at *;generalize z%v1=r1 at *
     go_wp2_with fail
     go_loopg [16,18] (t1+1) (fun gh rh q1 wx=>∃t rr:Nat,q1 = .int .u64 t∧rh = .int .u64 rr∧t+1≤gh∧rr<4294967296∧Hid (yh z v1 (z*BH+u0) (v1*BH+v2) t rr)∧Hid (t<WB)∧w1=wx)
     case atStart=>exact⟨t1,r1,rfl,rfl,Nat.le_refl _,Hr1.out,HI20,Ht1,rfl⟩
     case round=>
      obtain⟨t,rr,rfl,rfl,ht,hrr,hI,Htb,rfl⟩:=hrel;by_cases hb:4294967296≤t
      ·have hbI:(4294967296:Int)≤(t:Int):=by omega
       obtain⟨t',het,hI2⟩:=HK2.out.down hI.out (.inl (by unfold BH;omega));have HI2:=hid hI2;have HIo:=hid hI.out
       have wa:IntKind.u64.wrap ((t:Int)-1)=(t':Int):=by
        rw[show (t:Int)-1=(t':Int) by omega];exact wrap_u64 _ (by have:=Htb.out;omega)
       have wb:IntKind.u64.wrap ((rr:Int)+(v1:Int))=((rr+v1:Nat):Int):=by
        rw[←QaG];exact wrap_u64 _ (by unfold WB;omega)
       clear hI hI2;by_cases hr2:4294967296≤rr+v1
       ·have hr3:(4294967296:Int)≤((rr+v1:Nat):Int):=by omega
        have hF:=hid (HK2.out.exit_far (het ▸ HIo.out) HI2.out (by unfold BH;omega));have hE:=hid (yJ HI2.out (HK2.out.far (show BH≤rr+v1 by unfold BH;omega) hF.out.1));have HTb:=hid hF.out.1;have Hrr:=hid (And.intro hrr (And.intro hr2 (And.intro het ht)))
        try have Hb:=hid hb
        try clear hb
        clear hrr hr2 het ht hF;generalize rr+v1=r2 at wb hr3;obtain⟨g1,g2⟩:=Ja HD.out H4.out h5 HT.out hE.out HT1.out HTb.out
        go_wp2
        go_ret2;refine⟨zi ?_ ?_,0,rfl⟩
        ·first
          | rfl
          | exact g1
          | (have h1:=HT1.out;have h2:=HTb.out;unfold BH at h1 h2;rw[jM,jM] at g1;rw[jM];omega)
          | (have h1:=HT1.out;have h2:=HTb.out;unfold BH at h1 h2;rw[jM,jM] at g1;omega)
        ·first
          | rfl
          | exact g2
          | (refine Eq.trans ?_ g2;congr 1;simp only[jM];omega)
        --t'
       ·have hr3:¬(4294967296:Int)≤((rr+v1:Nat):Int):=by omega
        cases gk with
        | zero=>exact absurd ht (by omega)
        | succ gh=>
         have Htb2:Hid (t'<WB):=hid (by have:=Htb.out;omega);have Hrel:Hid (t'+1≤gh∧rr+v1<4294967296):=hid ⟨by omega,by omega⟩;clear hrr hr2 het ht
         try clear hb
         generalize rr+v1=r2 at *
         go_wp2
         go_roundg gh
         case rel=>exact⟨t',r2,by go_num,by go_num,Hrel.out.1,Hrel.out.2,HI2,Htb2,rfl⟩
         case measure=>omega
      ·have hbI:¬(4294967296:Int)≤(t:Int):=by omega
       have hm:t*v2<WB:=by rw[zZ];exact Qcc (by unfold BH;omega) HD.out.v2lt
       have wm:IntKind.u64.wrap ((t:Int)*(v2:Int))=((t*v2:Nat):Int):=by rw[←QaM];exact wrap_u64 _ hm
       have hu:=HD.out.u0lt;unfold BH at hu
       have wr2:IntKind.u64.wrap (4294967296*(rr:Int))=((4294967296*rr:Nat):Int):=by
        rw[show 4294967296*(rr:Int)=((4294967296*rr:Nat):Int) by omega];exact wrap_u64 _ (by unfold WB;omega)
       have ws:IntKind.u64.wrap (((4294967296*rr:Nat):Int)+(u0:Int))=((4294967296*rr+u0:Nat):Int):=by
        rw[←QaG];exact wrap_u64 _ (by unfold WB;omega)
       by_cases hc:4294967296*rr+u0<t*v2
       ·have hcI:((4294967296*rr+u0:Nat):Int)<((t*v2:Nat):Int):=by omega
        have HW:Hid (BH≤t∨rr*BH+u0<t*v2):=hid (.inr (by unfold BH;omega));generalize hpe:t*v2=pp at wm hcI;generalize hme:4294967296*rr+u0=mm at ws hcI;generalize hne:4294967296*rr=nn at wr2 ws;have Hx:=hid (And.intro hpe (And.intro hme hne));clear hpe hme hne hc hm;obtain⟨t',het,hI2⟩:=HK2.out.down hI.out (HW.out);have HI2:=hid hI2;have HIo:=hid hI.out
        have wa:IntKind.u64.wrap ((t:Int)-1)=(t':Int):=by
         rw[show (t:Int)-1=(t':Int) by omega];exact wrap_u64 _ (by have:=Htb.out;omega)
        have wb:IntKind.u64.wrap ((rr:Int)+(v1:Int))=((rr+v1:Nat):Int):=by
         rw[←QaG];exact wrap_u64 _ (by unfold WB;omega)
        clear hI hI2;by_cases hr2:4294967296≤rr+v1
        ·have hr3:(4294967296:Int)≤((rr+v1:Nat):Int):=by omega
         have hF:=hid (HK2.out.exit_far (het ▸ HIo.out) HI2.out (by unfold BH;omega));have hE:=hid (yJ HI2.out (HK2.out.far (show BH≤rr+v1 by unfold BH;omega) hF.out.1));have HTb:=hid hF.out.1;have Hrr:=hid (And.intro hrr (And.intro hr2 (And.intro het ht)))
         try have Hb:=hid hb
         try clear hb
         clear hrr hr2 het ht hF;generalize rr+v1=r2 at wb hr3;obtain⟨g1,g2⟩:=Ja HD.out H4.out h5 HT.out hE.out HT1.out HTb.out
         go_wp2
         go_ret2;refine⟨zi ?_ ?_,0,rfl⟩
         ·first
           | rfl
           | exact g1
           | (have h1:=HT1.out;have h2:=HTb.out;unfold BH at h1 h2;rw[jM,jM] at g1;rw[jM];omega)
           | (have h1:=HT1.out;have h2:=HTb.out;unfold BH at h1 h2;rw[jM,jM] at g1;omega)
         ·first
           | rfl
           | exact g2
           | (refine Eq.trans ?_ g2;congr 1;simp only[jM];omega)
         --t'
        ·have hr3:¬(4294967296:Int)≤((rr+v1:Nat):Int):=by omega
         cases gk with
         | zero=>exact absurd ht (by omega)
         | succ gh=>
          have Htb2:Hid (t'<WB):=hid (by have:=Htb.out;omega);have Hrel:Hid (t'+1≤gh∧rr+v1<4294967296):=hid ⟨by omega,by omega⟩;clear hrr hr2 het ht
          try clear hb
          generalize rr+v1=r2 at *
          go_wp2
          go_roundg gh
          case rel=>exact⟨t',r2,by go_num,by go_num,Hrel.out.1,Hrel.out.2,HI2,Htb2,rfl⟩
          case measure=>omega
       ·have hcI:¬((4294967296*rr+u0:Nat):Int)<((t*v2:Nat):Int):=by omega
        have hE:=hid (yJ hI.out (by unfold BH;omega));have HTb:Hid (t<BH):=hid (by unfold BH;omega);have Hb:=hid (And.intro hb (And.intro hrr ht));clear hrr ht;generalize hpe:t*v2=pp at wm hcI;generalize hme:4294967296*rr+u0=mm at ws hcI;generalize hne:4294967296*rr=nn at wr2 ws;have Hx:=hid (And.intro hpe (And.intro hme hne));clear hpe hme hne hc hm hb hu;obtain⟨g1,g2⟩:=Ja HD.out H4.out h5 HT.out hE.out HT1.out HTb.out
        go_wp2
        go_ret2;refine⟨zi ?_ ?_,0,rfl⟩
        ·first
          | rfl
          | exact g1
          | (have h1:=HT1.out;have h2:=HTb.out;unfold BH at h1 h2;rw[jM,jM] at g1;rw[jM];omega)
          | (have h1:=HT1.out;have h2:=HTb.out;unfold BH at h1 h2;rw[jM,jM] at g1;omega)
        ·first
          | rfl
          | exact g2
          | (refine Eq.trans ?_ g2;congr 1;simp only[jM];omega)
        --t
    ·have hr3:¬(4294967296:Int)≤((rr+v1:Nat):Int):=by omega
     cases gk with
     | zero=>exact absurd ht (by omega)
     | succ gh=>
      have Htb2:Hid (t'<WB):=hid (by have:=Htb.out;omega);have Hrel:Hid (t'+1≤gh∧rr+v1<4294967296):=hid ⟨by omega,by omega⟩;clear hrr hr2 het ht
      try clear hb
      generalize rr+v1=r2 at *
      go_wp2
      go_roundg gh
      case rel=>exact⟨t',r2,by go_num,by go_num,Hrel.out.1,Hrel.out.2,HI2,Htb2,rfl⟩
      case measure=>omega
   ·have hcI:¬((4294967296*rr+u1:Nat):Int)<((t*v2:Nat):Int):=by omega
    have hE:=hid (yJ hI.out (by unfold BH;omega));have HTb:Hid (t<BH):=hid (by unfold BH;omega);have Hb:=hid (And.intro hb (And.intro hrr ht));clear hrr ht;generalize hpe:t*v2=pp at wm hcI;generalize hme:4294967296*rr+u1=mm at ws hcI;generalize hne:4294967296*rr=nn at wr2 ws;have Hx:=hid (And.intro hpe (And.intro hme hne));clear hpe hme hne hc hm hb hu;obtain⟨z,a1,a2,a3,hz,hzl,m1,m2,m3,m4⟩:=Zj HD.out hE.out;have HT:=hid hz;have HT1:=hid HTb.out;obtain⟨e1,e2,e3,e4,e5⟩:=XH hv1 (show z<WB by have:=HD.out.ylt;omega);have HK2:=hid (XU HD.out.v2lt HD.out.u0lt (Zi HD.out.yv hzl HD.out.u0lt) HD.out.norm);have HI20:=hid HK2.out.start;have Hr1:Hid (z%v1<4294967296):=hid (by omega);have Ht1:Hid (z/v1<WB):=hid (Qax (QaW _ _) (by have:=HD.out.ylt;omega));clear hz hzl hE HTb;generalize z/v1*v1=p1 at *;generalize z/v1=t1 at *;generalize z%v1=r1 at *
    go_wp2_with fail
    go_loopg [16,18] (t1+1) (fun gh rh q1 wx=>∃t rr:Nat,q1 = .int .u64 t∧rh = .int .u64 rr∧t+1≤gh∧rr<4294967296∧Hid (yh z v1 (z*BH+u0) (v1*BH+v2) t rr)∧Hid (t<WB)∧w1=wx)
    case atStart=>exact⟨t1,r1,rfl,rfl,Nat.le_refl _,Hr1.out,HI20,Ht1,rfl⟩
    case round=>
     obtain⟨t,rr,rfl,rfl,ht,hrr,hI,Htb,rfl⟩:=hrel;by_cases hb:4294967296≤t
     ·have hbI:(4294967296:Int)≤(t:Int):=by omega
      obtain⟨t',het,hI2⟩:=HK2.out.down hI.out (.inl (by unfold BH;omega));have HI2:=hid hI2;have HIo:=hid hI.out
      have wa:IntKind.u64.wrap ((t:Int)-1)=(t':Int):=by
       rw[show (t:Int)-1=(t':Int) by omega];exact wrap_u64 _ (by have:=Htb.out;omega)
      have wb:IntKind.u64.wrap ((rr:Int)+(v1:Int))=((rr+v1:Nat):Int):=by
       rw[←QaG];exact wrap_u64 _ (by unfold WB;omega)
      clear hI hI2;by_cases hr2:4294967296≤rr+v1
      ·have hr3:(4294967296:Int)≤((rr+v1:Nat):Int):=by omega
       have hF:=hid (HK2.out.exit_far (het ▸ HIo.out) HI2.out (by unfold BH;omega));have hE:=hid (yJ HI2.out (HK2.out.far (show BH≤rr+v1 by unfold BH;omega) hF.out.1));have HTb:=hid hF.out.1;have Hrr:=hid (And.intro hrr (And.intro hr2 (And.intro het ht)))
       try have Hb:=hid hb
       try clear hb
       clear hrr hr2 het ht hF;generalize rr+v1=r2 at wb hr3;obtain⟨g1,g2⟩:=Ja HD.out H4.out h5 HT.out hE.out HT1.out HTb.out
       go_wp2
       go_ret2;refine⟨zi ?_ ?_,0,rfl⟩
       ·first
         | rfl
         | exact g1
         | (have h1:=HT1.out;have h2:=HTb.out;unfold BH at h1 h2;rw[jM,jM] at g1;rw[jM];omega)
         | (have h1:=HT1.out;have h2:=HTb.out;unfold BH at h1 h2;rw[jM,jM] at g1;omega)
       ·first
         | rfl
         | exact g2
         | (refine Eq.trans ?_ g2;congr 1;simp only[jM];omega)
       --t'
      ·have hr3:¬(4294967296:Int)≤((rr+v1:Nat):Int):=by omega
       cases gk with
       | zero=>exact absurd ht (by omega)
       | succ gh=>
        have Htb2:Hid (t'<WB):=hid (by have:=Htb.out;omega);have Hrel:Hid (t'+1≤gh∧rr+v1<4294967296):=hid ⟨by omega,by omega⟩;clear hrr hr2 het ht
        try clear hb
        generalize rr+v1=r2 at *
        go_wp2
        go_roundg gh
        case rel=>exact⟨t',r2,by go_num,by go_num,Hrel.out.1,Hrel.out.2,HI2,Htb2,rfl⟩
        case measure=>omega
     ·have hbI:¬(4294967296:Int)≤(t:Int):=by omega
      have hm:t*v2<WB:=by rw[zZ];exact Qcc (by unfold BH;omega) HD.out.v2lt
      have wm:IntKind.u64.wrap ((t:Int)*(v2:Int))=((t*v2:Nat):Int):=by rw[←QaM];exact wrap_u64 _ hm
      have hu:=HD.out.u0lt;unfold BH at hu
      have wr2:IntKind.u64.wrap (4294967296*(rr:Int))=((4294967296*rr:Nat):Int):=by
       rw[show 4294967296*(rr:Int)=((4294967296*rr:Nat):Int) by omega];exact wrap_u64 _ (by unfold WB;omega)
      have ws:IntKind.u64.wrap (((4294967296*rr:Nat):Int)+(u0:Int))=((4294967296*rr+u0:Nat):Int):=by
       rw[←QaG];exact wrap_u64 _ (by unfold WB;omega)
      by_cases hc:4294967296*rr+u0<t*v2
      ·have hcI:((4294967296*rr+u0:Nat):Int)<((t*v2:Nat):Int):=by omega
       have HW:Hid (BH≤t∨rr*BH+u0<t*v2):=hid (.inr (by unfold BH;omega));generalize hpe:t*v2=pp at wm hcI;generalize hme:4294967296*rr+u0=mm at ws hcI;generalize hne:4294967296*rr=nn at wr2 ws;have Hx:=hid (And.intro hpe (And.intro hme hne));clear hpe hme hne hc hm;obtain⟨t',het,hI2⟩:=HK2.out.down hI.out (HW.out);have HI2:=hid hI2;have HIo:=hid hI.out
       have wa:IntKind.u64.wrap ((t:Int)-1)=(t':Int):=by
        rw[show (t:Int)-1=(t':Int) by omega];exact wrap_u64 _ (by have:=Htb.out;omega)
       have wb:IntKind.u64.wrap ((rr:Int)+(v1:Int))=((rr+v1:Nat):Int):=by
        rw[←QaG];exact wrap_u64 _ (by unfold WB;omega)
       clear hI hI2;by_cases hr2:4294967296≤rr+v1
       ·have hr3:(4294967296:Int)≤((rr+v1:Nat):Int):=by omega
        have hF:=hid (HK2.out.exit_far (het ▸ HIo.out) HI2.out (by unfold BH;omega));have hE:=hid (yJ HI2.out (HK2.out.far (show BH≤rr+v1 by unfold BH;omega) hF.out.1));have HTb:=hid hF.out.1;have Hrr:=hid (And.intro hrr (And.intro hr2 (And.intro het ht)))
        try have Hb:=hid hb
        try clear hb
        clear hrr hr2 het ht hF;generalize rr+v1=r2 at wb hr3;obtain⟨g1,g2⟩:=Ja HD.out H4.out h5 HT.out hE.out HT1.out HTb.out
        go_wp2
        go_ret2;refine⟨zi ?_ ?_,0,rfl⟩
        ·first
          | rfl
          | exact g1
          | (have h1:=HT1.out;have h2:=HTb.out;unfold BH at h1 h2;rw[jM,jM] at g1;rw[jM];omega)
          | (have h1:=HT1.out;have h2:=HTb.out;unfold BH at h1 h2;rw[jM,jM] at g1;omega)
        ·first
          | rfl
          | exact g2
          | (refine Eq.trans ?_ g2;congr 1;simp only[jM];omega)
        --t'
       ·have hr3:¬(4294967296:Int)≤((rr+v1:Nat):Int):=by omega
        cases gk with
        | zero=>exact absurd ht (by omega)
        | succ gh=>
         have Htb2:Hid (t'<WB):=hid (by have:=Htb.out;omega);have Hrel:Hid (t'+1≤gh∧rr+v1<4294967296):=hid ⟨by omega,by omega⟩;clear hrr hr2 het ht
         try clear hb
         generalize rr+v1=r2 at *
         go_wp2
         go_roundg gh
         case rel=>exact⟨t',r2,by go_num,by go_num,Hrel.out.1,Hrel.out.2,HI2,Htb2,rfl⟩
         case measure=>omega
      ·have hcI:¬((4294967296*rr+u0:Nat):Int)<((t*v2:Nat):Int):=by omega
       have hE:=hid (yJ hI.out (by unfold BH;omega));have HTb:Hid (t<BH):=hid (by unfold BH;omega);have Hb:=hid (And.intro hb (And.intro hrr ht));clear hrr ht;generalize hpe:t*v2=pp at wm hcI;generalize hme:4294967296*rr+u0=mm at ws hcI;generalize hne:4294967296*rr=nn at wr2 ws;have Hx:=hid (And.intro hpe (And.intro hme hne));clear hpe hme hne hc hm hb hu;obtain⟨g1,g2⟩:=Ja HD.out H4.out h5 HT.out hE.out HT1.out HTb.out
       go_wp2
       go_ret2;refine⟨zi ?_ ?_,0,rfl⟩
       ·first
         | rfl
         | exact g1
         | (have h1:=HT1.out;have h2:=HTb.out;unfold BH at h1 h2;rw[jM,jM] at g1;rw[jM];omega)
         | (have h1:=HT1.out;have h2:=HTb.out;unfold BH at h1 h2;rw[jM,jM] at g1;omega)
       ·first
         | rfl
         | exact g2
         | (refine Eq.trans ?_ g2;congr 1;simp only[jM];omega)
       --t
