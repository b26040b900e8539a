/- Contracts: the library's slices over rational numbers: Reverse. -/
import Derived.Test.YtneafcdfnhnpnaaGreatDoorZD14
import Derived.Test.YtneafcdfnhnpnaaGreatDoorZD18
set_option maxRecDepth 100000
set_option maxHeartbeats 1000000
namespace Go.Proofs.YtneafcdfnhnpnaaGreatDoor
open Go.RowKit Go.Lib
theorem Gp (w:World) (b n c:Nat) (es:List El) (L:List Rat) (hO:jp w b es L) (hn:n=L.length) (hc1:n≤c) (hc2:c≤9223372036854775807):
  Calls Tryz.prog 204 #[.slice (some ⟨b,0,none⟩) n c] w fun e w'=>e = .returned (.tuple #[])∧(∃es',jp w' b es' L.reverse)∧jh b w w':=by
 have hb:b<w.heap.size:=hO.own.lt
 have hst:jp w b es (qN L 0):=by rw[Gm];exact hO
 have HN:=hid hn;clear hO hn;go_enter Tryz.func204,Tryz.ntmps204
 go_wp2_with fail
 go_loopg [2,3] n (fun gh i j wr=>∃k:Nat,i = .int .i64 k∧j = .int .i64 ((n:Int)-1-k)∧k+gh=n∧2*k≤n+1∧Hid (∃es',jp wr b es' (qN L k))∧jh b w wr)
 case atStart=>exact⟨0,rfl,by go_num,by omega,by omega,hid ⟨es,hst⟩,jh.refl _ _⟩
 case round=>
  clear hst;obtain⟨k,rfl,rfl,hk,hk2,hO,hB⟩:=hrel;by_cases hlt:2*k+1<n
  ·have hti:(k:Int)<(n:Int)-1-k:=by omega
   have hjj:(n:Int)-1-k=((n-1-k:Nat):Int):=by omega
   have hl:=HN.out;obtain⟨es1,hR⟩:=hO.out;have e1:=Xv L k k (Nat.le_refl _) (by omega);have e2:=Xv L k (n-1-k) (by omega) (by omega);obtain⟨u,A1,n1,c1,A2,n2,c2,zz0,hu,hru,x0,x1,x2,f0,f1,f2⟩:=hR.at_ (j:=k) (by rw[JA];omega);obtain⟨v,B1,m1,d1,B2,m2,d2,zz1,hv,hrv,y0,y1,y2,g0,g1,g2⟩:=hR.at_ (j:=n-1-k) (by rw[JA];omega);clear zz0 zz1;obtain⟨u0,ua,ub⟩:=u
   have hua:ua = .slice A1 n1 c1∧ub = .slice A2 n2 c2:=by simpa using hu
   obtain⟨rfl,rfl⟩:=hua;obtain⟨v0,va,vb⟩:=v
   have hva:va = .slice B1 m1 d1∧vb = .slice B2 m2 d2:=by simpa using hv
   obtain⟨rfl,rfl⟩:=hva;clear hu hv;rw[e1] at hru;rw[e2] at hrv;dsimp only at x0 y0
   have hne:¬k=n-1-k:=by omega
   have hln:=hR.own.lt;have Hs:=hid (Gl L k (L[k]?.getD 0) (L[n-1-k]?.getD 0) (by omega) (by rw[List.getElem?_eq_getElem (by omega)];rfl) (by rw[←hl,List.getElem?_eq_getElem (by omega)];rfl));rw[←hl] at Hs
   have hjn:n-1-k<n:=by omega
   have HP:Hid (∃es',jp ((((((wr.setCell ⟨b,k*3,none⟩ (.bool v0)).setCell ⟨b,k*3+1,none⟩ (.slice B1 m1 d1)).setCell ⟨b,k*3+2,none⟩ (.slice B2 m2 d2)).setCell ⟨b,(n-1-k)*3,none⟩ (.bool u0)).setCell ⟨b,(n-1-k)*3+1,none⟩ (.slice A1 n1 c1)).setCell ⟨b,(n-1-k)*3+2,none⟩ (.slice A2 n2 c2)) b es' (qN L (k+1))):=hid (by
    have h1:=hR.put (j:=k) (e:=(v0,.slice B1 m1 d1,.slice B2 m2 d2)) (q:=L[n-1-k]?.getD 0) (by rw[JA];omega) hrv;have hru2:=hru.stay hR.own hR.noInt (jh.set3 wr b (k*3) (.bool v0) (.slice B1 m1 d1) (.slice B2 m2 d2));have h2:=h1.put (j:=n-1-k) (e:=(u0,.slice A1 n1 c1,.slice A2 n2 c2)) (q:=L[k]?.getD 0) (by rw[List.length_set,JA];omega) hru2;rw[Hs.out] at h2
    exact⟨_,h2⟩)
   clear e1 e2 hl hru hrv;rw[hjj] at hti ⊢;generalize hj:n-1-k=j at *;have Hj:=hid hj;have Hjj:=hid hjj
   have hbt:=(jh.set3 (((wr.setCell ⟨b,k*3,none⟩ (.bool v0)).setCell ⟨b,k*3+1,none⟩ (.slice B1 m1 d1)).setCell ⟨b,k*3+2,none⟩ (.slice B2 m2 d2)) b (j*3) (.bool u0) (.slice A1 n1 c1) (.slice A2 n2 c2))
   have HBt:=hid ((hB.trans (jh.set3 wr b (k*3) (.bool v0) (.slice B1 m1 d1) (.slice B2 m2 d2))).trans hbt);clear hj hjj hR hO hbt
   go_wp2_with fail
   go_region
   have HP2:=hid (HP.out);clear hB Hs x0 x1 x2 y0 y1 y2 f0 f1 f2 g0 g1 g2
   go_wp2
   go_roundg (gk-1)
   case rel=>exact⟨k+1,by go_num,by have:=Hj.out;go_num,by have:=Hj.out;omega,by omega,hid (by obtain⟨es',h⟩:=HP2.out;exact⟨es',h.below ((Below.refl _ _).drew)⟩),HBt.out.below ((Below.refl _ _).drew)⟩
   case measure=>omega
  ·have hti:¬((k:Int)<(n:Int)-1-k):=by omega
   have HO:=hid (show ∃es',jp wr b es' L.reverse by rw[←Gk L k (by have:=HN.out;omega)];exact hO.out);clear hO
   go_wp2
   go_end0
   exact⟨rfl,HO.out,hB⟩
