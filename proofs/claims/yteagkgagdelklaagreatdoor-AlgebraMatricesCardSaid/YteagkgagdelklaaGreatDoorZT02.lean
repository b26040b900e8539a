/- The carry and borrow instructions, as the walk meets them. -/
import Derived.Test.YteagkgagdelklaaGreatDoorZT01
set_option maxRecDepth 100000
set_option maxHeartbeats 2000000
namespace Go.Proofs.YteagkgagdelklaaGreatDoor
open Go.RowKit
theorem Qh (x y c:Int) (hx:0≤x) (hx2:x<18446744073709551616) (hy:0≤y) (hy2:y<18446744073709551616) (hc0:0≤c) (hc:c≤1) (w:World):
  (callFunc 103 #[.int .u64 x,.int .u64 y,.int .u64 c]).run Tryz.prog w =
  .ok (.value (.tuple #[.int .u64 ((x+y+c)%18446744073709551616),.int .u64 ((x+y+c)/18446744073709551616)])) w:=by
 obtain⟨x,rfl⟩:=Qa2 hx;obtain⟨y,rfl⟩:=Qa2 hy;obtain⟨c,rfl⟩:=Qa2 hc0;rw[run_callFunc_extern Tryz.func103 (by kernel_rfl) (by kernel_rfl) (by kernel_rfl) (e:=add64Entry) (by kernel_rfl),run_add64 x y c (by omega) (by omega) (by omega) (by omega)];rfl
theorem Qi (x y:Int) (hx:0≤x) (hx2:x<18446744073709551616) (hy:0≤y) (hy2:y<18446744073709551616) (w:World):
  (callFunc 103 #[.int .u64 x,.int .u64 y,.int .u64 0]).run Tryz.prog w =
  .ok (.value (.tuple #[.int .u64 ((x+y)%18446744073709551616),.int .u64 ((x+y)/18446744073709551616)])) w:=by
 simpa using Qh x y 0 hx hx2 hy hy2 (Int.le_refl 0) (by decide) w
def zB (x y:Int):Int:=if x<y then 1 else 0
theorem Yt (x y b:Int) (hx:0≤x) (hx2:x<18446744073709551616) (hy:0≤y) (hy2:y<18446744073709551616) (hb0:0≤b) (hb:b≤1) (w:World):
  (callFunc 217 #[.int .u64 x,.int .u64 y,.int .u64 b]).run Tryz.prog w =
  .ok (.value (.tuple #[.int .u64 ((x-y-b)%18446744073709551616),.int .u64 (zB x (y+b))])) w:=by
 obtain⟨x,rfl⟩:=Qa2 hx;obtain⟨y,rfl⟩:=Qa2 hy;obtain⟨b,rfl⟩:=Qa2 hb0
 have e1:(((x+18446744073709551616-y-b)%18446744073709551616:Nat):Int)=((x:Int)-y-b)%18446744073709551616:=by omega
 have e2:((if x<y+b then 1 else 0:Nat):Int)=zB x (y+b):=by unfold zB;split <;> split <;> omega
 rw[←e1,←e2];rw[run_callFunc_extern Tryz.func217 (by kernel_rfl) (by kernel_rfl) (by kernel_rfl) (e:=sub64Entry) (by kernel_rfl),run_sub64 x y b (by omega)];rfl
theorem Ej (x y:Int) (hx:0≤x) (hx2:x<18446744073709551616) (hy:0≤y) (hy2:y<18446744073709551616) (w:World):
  (callFunc 217 #[.int .u64 x,.int .u64 y,.int .u64 0]).run Tryz.prog w =
  .ok (.value (.tuple #[.int .u64 ((x-y)%18446744073709551616),.int .u64 (zB x y)])) w:=by
 simpa using Yt x y 0 hx hx2 hy hy2 (Int.le_refl 0) (by decide) w
theorem Ek (x b:Int) (hx:0≤x) (hx2:x<18446744073709551616) (hb0:0≤b) (hb:b≤1) (w:World):
  (callFunc 217 #[.int .u64 x,.int .u64 0,.int .u64 b]).run Tryz.prog w =
  .ok (.value (.tuple #[.int .u64 ((x-b)%18446744073709551616),.int .u64 (zB x b)])) w:=by
 simpa using Yt x 0 b hx hx2 (by omega) (by omega) hb0 hb w
theorem Vg (x c:Int) (hx:0≤x) (hx2:x<18446744073709551616) (hc0:0≤c) (hc:c≤1) (w:World):
  (callFunc 103 #[.int .u64 x,.int .u64 0,.int .u64 c]).run Tryz.prog w =
  .ok (.value (.tuple #[.int .u64 ((x+c)%18446744073709551616),.int .u64 ((x+c)/18446744073709551616)])) w:=by
 simpa using Qh x 0 c hx hx2 (by omega) (by omega) hc0 hc w
end Go.Proofs.YteagkgagdelklaaGreatDoor
namespace Go.Proofs.YteagkgagdelklaaGreatDoor
structure y5 {K:Type} [Lean.Grind.Field K] (V:(Nat→K)→Prop) (n r:Nat) (c:Nat→Nat) (E:Nat→Nat→K):Prop where
 lt:∀i,i<r→c i<n
 mono:∀i j,i<j→j<r→c i<c j
 one:∀i,i<r→E i (c i)=1
 zero:∀i j,i<r→j<r→i≠j→E i (c j)=0
 before:∀i,i<r → ∀k,k<c i→E i k=0
 mem:∀i,i<r→V (E i)
 det:∀v,V v→(∀j,j<r→v (c j)=0) → ∀k,k<n→v k=0
def JU {K:Type} [Lean.Grind.Field K] (V:(Nat→K)→Prop):Prop:=∀v u t,V v→V u→V (fun k=>v k-t*u k)
def qK {K:Type} [Lean.Grind.Field K] (c:Nat→Nat) (E:Nat→Nat→K) (v:Nat→K):Nat→Nat→K
 | 0=>v
 | k+1=>fun x=>qK c E v k x-qK c E v k (c k)*E k x
section
variable {K:Type} [Lean.Grind.Field K] {V:(Nat→K)→Prop} {n r:Nat} {c:Nat→Nat} {E:Nat→Nat→K}
theorem Mn (hV:JU V) (h:y5 V n r c E) {v:Nat→K} (hv:V v):∀k,k≤r→V (qK c E v k)
 | 0,_=>hv
 | k+1,hk=>hV _ _ _ (Mn hV h hv k (by omega)) (h.mem k (by omega))
theorem Uq {v:Nat→K} (x:Nat):∀k,(∀j,j<k→qK c E v j (c j)=0∨E j x=0)→qK c E v k x=v x
 | 0,_=>rfl
 | k+1,hk=>by
  have ih:=Uq (v:=v) x k (fun j hj=>hk j (by omega))
  show qK c E v k x-qK c E v k (c k)*E k x=v x
  rw[ih];rcases hk k (by omega) with h | h <;> rw[h] <;> grind
theorem Lv (h:y5 V n r c E) {v:Nat→K} {j:Nat} (hj:j<r):∀k,k≤j→qK c E v k (c j)=v (c j):=fun k hk=>
 Uq (c j) k (fun i hi=> .inr (h.zero i j (by omega) hj (by omega)))
theorem Mp (h:y5 V n r c E) {v:Nat→K} :∀k,k≤r → ∀j,j<k→qK c E v k (c j)=0
 | 0,_,_,hj=>by omega
 | k+1,hk,j,hj=>by
  show qK c E v k (c j)-qK c E v k (c k)*E k (c j)=0
  by_cases hjk:j=k
  ·subst hjk
   rw[h.one j (by omega)];grind
  ·rw[Mp h k (by omega) j (by omega),h.zero k j (by omega) (by omega) (by omega)];grind
theorem Lw (hV:JU V) (h:y5 V n r c E) {v:Nat→K} (hv:V v) {x:Nat} (hx:x<n):qK c E v r x=0:=
 h.det _ (Mn hV h hv r (Nat.le_refl _)) (Mp h r (Nat.le_refl _)) x hx
theorem y5.first (hV:JU V) (h:y5 V n r c E) {v:Nat→K} (hv:V v) {x:Nat} (hx:x<n) (h1:v x≠0) (h0:∀k,k<x→v k=0):∃j,j<r∧c j=x:=by
 refine Classical.byContradiction fun hno=>h1 ?_
 rw[←Uq (c:=c) (E:=E) (v:=v) x r,Lw hV h hv hx];intro j hj
 have hne:c j≠x:=fun e=>hno ⟨j,hj,e⟩
 rcases Qae (c j) x with hl | hl
 ·exact .inl (by rw[Lv h hj j (Nat.le_refl _)];exact h0 _ hl)
 ·exact .inr (h.before j hj x (by omega))
theorem Gn {c:Nat→Nat} {r:Nat} (h:∀i j,i<j→j<r→c i<c j) {i j:Nat} (hij:i≤j) (hj:j<r):c i≤c j:=by
 rcases Qae i j with h1 | h1
 ·exact Qbo (h i j h1 hj)
 ·rw[Nat.le_antisymm hij h1];exact Nat.le_refl _
theorem Ou {c d:Nat→Nat} {r s:Nat} (hc:∀i j,i<j→j<r→c i<c j) (hd:∀i j,i<j→j<s→d i<d j) (h1:∀i,i<r → ∃j,j<s∧d j=c i) (h2:∀i,i<s → ∃j,j<r∧c j=d i):
  (∀i,i<r→i<s→c i=d i)∧r=s:=by
 have hall:∀m i,i<m→i<r→i<s→c i=d i:=by
  intro m
  induction m with
  | zero=>intro i hi;omega
  | succ m ih=>
   intro i hi hr hs;obtain⟨j,hj,ej⟩:=h1 i hr;obtain⟨l,hl,el⟩:=h2 i hs
   have hij:i≤j:=by
    refine Nat.le_of_not_lt fun hlt=> ?_
    have:=ih j (by omega) (by omega) hj;have:=hc j i hlt hr;omega
   have hil:i≤l:=by
    refine Nat.le_of_not_lt fun hlt=> ?_
    have:=ih l (by omega) hl (by omega);have:=hd l i hlt hs;omega
   have:=Gn hd hij hj;have:=Gn hc hil hl;omega
 refine⟨fun i hr hs=>hall (i+1) i (by omega) hr hs,?_⟩;rcases Qck r s with h | h | h
 ·obtain⟨l,hl,el⟩:=h2 r h
  have:=hall (l+1) l (by omega) hl (by omega);have:=hd l r hl h;omega
 ·exact h
 ·obtain⟨l,hl,el⟩:=h1 s h
  have:=hall (l+1) l (by omega) (by omega) hl;have:=hc l s hl h;omega
theorem y5.same (hV:JU V) {s:Nat} {d:Nat→Nat} {D:Nat→Nat→K} (h:y5 V n r c E) (k:y5 V n s d D):r=s∧(∀i,i<r→c i=d i) ∧ ∀i,i<r → ∀x,x<n→E i x=D i x:=by
 have z1:∀a:K,a=1→a≠0:=fun a ha h0=>Lean.Grind.Field.zero_ne_one (h0.symm.trans ha)
 obtain⟨hcd,hrs⟩:=Ou h.mono k.mono (fun i hi=>k.first hV (h.mem i hi) (h.lt i hi) (z1 _ (h.one i hi)) (h.before i hi)) (fun i hi=>h.first hV (k.mem i hi) (k.lt i hi) (z1 _ (k.one i hi)) (k.before i hi));subst hrs;refine⟨rfl,fun i hi=>hcd i hi hi,fun i hi x hx=> ?_⟩
 have:=h.det _ (hV _ _ 1 (h.mem i hi) (k.mem i hi)) (fun j hj=>by
  show E i (c j)-1*D i (c j)=0
  by_cases hij:i=j
  ·subst hij
   rw[h.one i hi,hcd i hi hi,k.one i hi];grind
  ·rw[h.zero i j hi hj hij,hcd j hj hj,k.zero i j hi hj hij];grind) x hx
 have e:E i x-1*D i x=0:=this
 grind
end
end Go.Proofs.YteagkgagdelklaaGreatDoor
namespace Go.Proofs.YteagkgagdelklaaGreatDoor
open Go.Lib
def qZ:Nat→Nat→List UInt8
 | 0,_=>[]
 | k+1,r=>qZ k (r/10)++[UInt8.ofNat (48+r%10)]
theorem C9 (k r:Nat):(qZ k r).length=k:=by
 induction k generalizing r with
 | zero=>rfl
 | succ k ih=>simp[qZ,ih]
theorem JY {u:Nat} (h:10≤u):decDigits u=decDigits (u/10)++[UInt8.ofNat (48+u%10)]:=by rw[decDigits,dif_neg (by omega)]
theorem VL (k q r:Nat) (hq:1≤q) (hr:r<10^k):decDigits (q*10^k+r)=decDigits q++qZ k r:=by
 induction k generalizing r with
 | zero=>
  have:r=0:=by simpa using hr
  subst this;simp[qZ]
 | succ k ih=>
  have h10:1≤10^k:=Qcm _ _ (by decide)
  have h1:q*10^(k+1)=q*10^k*10:=by rw[QaD,Qal]
  have h2:1≤q*10^k:=Nat.mul_pos hq h10;rw[h1,JY (by omega)];rw[QaD] at hr;rw[show (q*10^k*10+r)/10=q*10^k+r/10 from by omega,show (q*10^k*10+r)%10=r%10 from by omega,ih (r/10) (by omega)];simp[qZ]
theorem Fa (k:Nat):qZ k 0=List.replicate k 48:=by
 induction k with
 | zero=>rfl
 | succ k ih=>rw[qZ,show 0/10=0 from rfl,ih,List.replicate_succ'];rfl
theorem J9 (k r:Nat) (hr:r<10^(k+1)):nDigits r≤k+1:=by
 induction k generalizing r with
 | zero=>rw[nDigits_small (by simpa using hr)];omega
 | succ k ih=>
  by_cases h:r<10
  ·rw[nDigits_small h];omega
  ·rw[nDigits_big h]
   have:=ih (r/10) (by rw[QaD] at hr;omega);omega
theorem C8 (k r:Nat) (hr:r<10^(k+1)):qZ (k+1) r=List.replicate (k+1-nDigits r) 48++decDigits r:=by
 induction k generalizing r with
 | zero=>
  have h:r<10:=by simpa using hr
  rw[nDigits_small h,decDigits_one h];simp[qZ,Nat.mod_eq_of_lt h]
 | succ k ih=>
  by_cases h:r<10
  ·rw[nDigits_small h,decDigits_one h,qZ,show r/10=0 from by omega,Fa,Qbm h]
   congr 1
  ·rw[qZ,ih (r/10) (by rw[QaD] at hr;omega),JY (by omega:10≤r),nDigits_big h,←QaV]
   congr 3
   omega
theorem L1 (b:UInt8) (c:Nat):repeatL [b] c=List.replicate c b:=by
 induction c with
 | zero=>rfl
 | succ c ih=>rw[repeatL,ih,Qa6];rfl
theorem VK (x:Nat) (h:10000000000000000000≤x):
  decDigits x=decDigits (x/10000000000000000000)++(List.replicate (19-nDigits (x%10000000000000000000)) 48++decDigits (x%10000000000000000000))∧1≤x/10000000000000000000∧nDigits (x%10000000000000000000)≤19:=by
 have h1:x=x/10000000000000000000*10^19+x%10000000000000000000:=by
  have:=QaP x 10000000000000000000;omega
 have h2:x%10000000000000000000<10^19:=QaI _ (by decide);refine⟨?_,by omega,J9 18 _ h2⟩
 conv=>lhs;rw[h1]
 rw[VL 19 _ _ (by omega) h2,C8 18 _ h2]
theorem Ck (x n:Nat) (h:x<WB^n):nDigits x≤20*n+1:=by
 apply J9;have h1:WB^n≤(10^20)^n:=Nat.pow_le_pow_left (by decide) n;rw[←QbY] at h1;have h2:10^(20*n)≤10^(20*n+1):=Qai (by decide) (by omega);omega
end Go.Proofs.YteagkgagdelklaaGreatDoor
namespace Go.Proofs.YteagkgagdelklaaGreatDoor
open Go.RowKit Go.Sort Go.Lib
def jK (w:World):Prop:=TabBelow Tryz.prog w.heap.size w "internal/strconv.uint64pow10" .u64 pow10Tab ∧ ∃m,2<w.heap.size∧w.cell? ⟨2,0,none⟩=some (.int .i64 m)
theorem jK.below {w w':World} (h:jK w) (hb:Below w.heap.size w w'):jK w':=by
 obtain⟨h1,m,h2,h3⟩:=h;exact⟨fun w2 hw2=>h1 w2 (hb.trans (hw2.mono hb.size)),m,Qac h2 hb.size,(hb.cell (p:=⟨2,0,none⟩) h2).trans h3⟩
theorem DY (u:Nat) (w:World) (hu:u<WB) (hG:jK w):
  Calls Tryz.prog 175 #[.int .u64 u,.int .i64 10] w fun e w'=>e = .returned (.string ⟨(decDigits u).toArray⟩)∧Below w.heap.size w w':=by
 unfold WB at hu;by_cases hs:u<100
 ·go_enter Tryz.func175,Tryz.ntmps175
  go_wp2_with (go_at_call 210;refine(Tryz.internal_strconv_small u hs _).mono ?_;rintro e w' ⟨rfl,rfl⟩)
  go_ret;exact⟨rfl,Below.refl _ _⟩
 ·have hu1:1≤u:=by omega
  have hnd20:nDigits u≤20:=by have:=numDigits_eq u hu1 hu;split at this <;> omega
  have hal:Tryz.prog.arrayLen 261=24:=by kernel_rfl
  have hsl1:∀W,(Instr.sliceAt 261 (.pointer (some ⟨w.heap.size,0,none⟩)) none (some (.int .i64 ((nDigits u:Nat):Int))) none).run Tryz.prog W = .ok (.slice (some ⟨w.heap.size,0,none⟩) (nDigits u) 24) W:=fun W=>by
   rw[run_sliceAt_array_h W 261 ⟨w.heap.size,0,none⟩ (by kernel_rfl) .i64 ((nDigits u:Nat):Int) (by omega) (by rw[hal];omega)]
   go_simp
  have hH0:=holds_zero0 w 261 (nDigits u) (by omega);have hfmt:=Tryz.internal_strconv_formatBase10 w.heap.size 0 24 u (Array.replicate (nDigits u) 0) (w.alloc (.cells zeros24 261)) hH0 (by rw[Array.size_replicate];exact lt_pow_nDigits u) hu (by rw[Array.size_replicate];omega);rw[Array.size_replicate] at hfmt;have HH0:=hid hH0;have HF:=hid hfmt;clear hH0 hal hfmt;go_enter Tryz.func175,Tryz.ntmps175
  go_wp2_with (go_at_call 211;refine(Tryz.internal_strconv_numDigits u hu1 hu _ (hG.1 _ ((Below.refl _ _).alloc (Nat.le_refl _) _))).mono ?_;rintro e w' ⟨rfl,rfl⟩)
  refine HF.out.mono ?_;rintro e w' ⟨rfl,k,v',dk,rfl,hF⟩
  have hcv:(convert 231 9 (.slice (some ⟨w.heap.size,0,none⟩) (nDigits u) 24)).run Tryz.prog ((putRow (fun (b:UInt8)=>Value.int .u8 (b.toNat:Int)) (w.alloc (.cells zeros24 261)) w.heap.size 0 dk).drewN k) = .ok (.string ⟨(decDigits u).toArray⟩) ((putRow (fun (b:UInt8)=>Value.int .u8 (b.toNat:Int)) (w.alloc (.cells zeros24 261)) w.heap.size 0 dk).drewN k):=by
   have h:=run_convert_bytes_back (P:=Tryz.prog) ((putRow (fun (b:UInt8)=>Value.int .u8 (b.toNat:Int)) (w.alloc (.cells zeros24 261)) w.heap.size 0 dk).drewN k) 231 9 5 ⟨w.heap.size,0,none⟩ 24 (decDigits u) Tryz.underlying231 Tryz.underlying5 Tryz.underlying9 (fun j hj=>by
    rw[row_is_numeral hF j hj,add_plain,World.cell?_drewN]
    exact cell?_putRow (fun (b:UInt8)=>Value.int .u8 (b.toNat:Int)) _ w.heap.size 0 _ dk HH0.out (by rw[hF.size,Array.size_replicate]) j (by rw[hF.size];rw[decDigits_length] at hj;exact hj))
   rw[decDigits_length] at h;exact h
  go_wp2
  go_ret;refine⟨rfl,?_⟩;exact below_drewN (below_putRow (q:=0) ((Below.refl _ w).alloc (Nat.le_refl _) _) (Nat.le_refl _)) k
theorem Wp (u:Nat) (w:World) (hu:u<WB) (hG:jK w):
  Calls Tryz.prog 140 #[.int .u64 u,.int .i64 10] w fun e w'=>e = .returned (.string ⟨(decDigits u).toArray⟩)∧Below w.heap.size w w':=by
 go_enter Tryz.func140,Tryz.ntmps140
 go_wp2_with (go_at_call 175;refine(DY u _ hu hG).mono ?_;rintro e w' ⟨rfl,hB⟩)
 go_ret;exact⟨rfl,hB⟩
end Go.Proofs.YteagkgagdelklaaGreatDoor
namespace Go.Proofs.YteagkgagdelklaaGreatDoor
theorem qt (ws:List Nat) (k:Nat):jd (ws.take (k+1))=jd (ws.take k)+WB^k*ws[k]?.getD 0:=by
 rcases Qae k ws.length with h | h
 ·rw[zl ws k h,JO,Qak,QaJ (by omega)]
 ·rw[Qad (by omega),Qad h,Qah h];simp
theorem Kj (L:List Nat) (k x j:Nat) (h:j≤k):(L.set k x).take j=L.take j:=by
 rw[Qca h]
theorem J4 (L:List Nat) (k x:Nat) (h:k<L.length):(L.set k x)[k]?.getD 0=x:=by simp[h]
theorem Kq (L:List Nat) (k x:Nat) (h:k<L.length):jd ((L.set k x).take (k+1))=jd (L.take k)+WB^k*x:=by
 rw[qt,Kj _ _ _ _ (Nat.le_refl _),J4 L k x h]
theorem zm {L:List Nat} (h:jJ L) (k x:Nat) (hx:x<WB):jJ (L.set k x):=by
 intro y hy;rcases QaN hy with h1 | h1
 ·exact h y h1
 ·omega
theorem K9 (n:Nat):jJ (List.replicate n 0):=by
 intro x hx;rw[QaU hx];decide
def xo (xs bs L:List Nat) (k br:Nat):Prop:=L.length=xs.length∧jJ L∧br≤1∧jd (xs.take k)+WB^k*br=jd (L.take k)+jd (bs.take k)
theorem xo.start (xs bs:List Nat):xo xs bs (List.replicate xs.length 0) 0 0:=⟨by simp,K9 _,by omega,by simp[jd]⟩
theorem xo.step {xs bs L:List Nat} {k br d br':Nat} (h:xo xs bs L k br) (hk:k<xs.length) (hd:d<WB) (hb:br'≤1)
  (he:xs[k]?.getD 0+WB*br'=d+bs[k]?.getD 0+br):xo xs bs (L.set k d) (k+1) br':=by
 obtain⟨h1,h2,h3,h4⟩:=h;refine⟨by simp[h1],zm h2 k d hd,hb,?_⟩;rw[qt xs,qt bs,Kq L k d (by omega),QaD]
 have e:WB^k*(xs[k]?.getD 0+WB*br')=WB^k*(d+bs[k]?.getD 0+br):=by rw[he]
 simp only[Qau,Qal] at e ⊢;omega
theorem xo.last {xs bs L:List Nat} {br:Nat} (h:xo xs bs L xs.length br) (hl:bs.length≤xs.length) (hle:jd bs≤jd xs):jd L=jd xs-jd bs:=by
 obtain⟨h1,h2,h3,h4⟩:=h;rw[Qad (Nat.le_refl _),Qad (by omega),Qad hl] at h4;have h5:=xj h2;rw[h1] at h5
 have:br=0:=by
  rcases Qae br 1 with hb | hb
  ·omega
  ·have hb1:br=1:=by omega
   subst hb1;omega
 subst this;omega
def xl (xs bs L:List Nat) (k c:Nat):Prop:=L.length=xs.length+1∧jJ L∧c≤1∧jd (xs.take k)+jd (bs.take k)=jd (L.take k)+WB^k*c
theorem xl.start (xs bs:List Nat):xl xs bs (List.replicate (xs.length+1) 0) 0 0:=⟨by simp,K9 _,by omega,by simp[jd]⟩
theorem xl.step {xs bs L:List Nat} {k c d c':Nat} (h:xl xs bs L k c) (hk:k<xs.length) (hd:d<WB) (hb:c'≤1)
  (he:xs[k]?.getD 0+bs[k]?.getD 0+c=d+WB*c'):xl xs bs (L.set k d) (k+1) c':=by
 obtain⟨h1,h2,h3,h4⟩:=h;refine⟨by simp[h1],zm h2 k d hd,hb,?_⟩;rw[qt xs,qt bs,Kq L k d (by omega),QaD]
 have e:WB^k*(xs[k]?.getD 0+bs[k]?.getD 0+c)=WB^k*(d+WB*c'):=by rw[he]
 simp only[Qau,Qal] at e ⊢;omega
theorem xl.last {xs bs L:List Nat} {c:Nat} (h:xl xs bs L xs.length c) (hl:bs.length≤xs.length):
  jd (L.set xs.length c)=jd xs+jd bs∧jJ (L.set xs.length c)∧(L.set xs.length c).length=xs.length+1:=by
 obtain⟨h1,h2,h3,h4⟩:=h;rw[Qad (Nat.le_refl _),Qad hl] at h4
 refine⟨?_,zm h2 _ _ (by have:(2:Nat)≤WB:=by decide
                         omega),by simp[h1]⟩
 have:=Kq L xs.length c (by omega);rw[Qad (by simp[h1])] at this;omega
def yj (xs L:List Nat) (f a k:Nat):Prop:=L.length=xs.length+1∧jJ L∧jd (L.take (k+1))=jd (xs.take k)*f+a
theorem yj.start (xs:List Nat) (f a:Nat) (ha:a<WB):yj xs ((List.replicate (xs.length+1) 0).set 0 a) f a 0:=by
 refine⟨by simp,zm (K9 _) _ _ ha,?_⟩;rw[Kq _ _ _ (by simp)];simp[jd]
theorem yj.step {xs L:List Nat} {f a k d c hi lo:Nat} (h:yj xs L f a k) (hk:k<xs.length) (hd:d<WB) (hc:hi+c<WB)
  (hp:xs[k]?.getD 0*f=hi*WB+lo) (he:L[k]?.getD 0+lo=d+WB*c):yj xs ((L.set k d).set (k+1) (hi+c)) f a (k+1):=by
 obtain⟨h1,h2,h3⟩:=h;refine⟨by simp[h1],zm (zm h2 k d hd) _ _ hc,?_⟩;rw[Kq _ _ _ (by simp;omega),Kq L k d (by omega),qt xs,QaD];rw[qt] at h3
 have e:WB^k*(L[k]?.getD 0+lo)=WB^k*(d+WB*c):=by rw[he]
 have e2:WB^k*(xs[k]?.getD 0*f)=WB^k*(hi*WB+lo):=by rw[hp]
 simp only[Qau,Qaz,Qal] at e e2 h3 ⊢;rw[Qam hi WB] at e2;omega
theorem yj.last {xs L:List Nat} {f a:Nat} (h:yj xs L f a xs.length):jd L=jd xs*f+a:=by
 obtain⟨h1,h2,h3⟩:=h;rw[Qad (by omega),Qad (Nat.le_refl _)] at h3;exact h3
theorem Gs (x f:Nat) (hx:x<WB) (hf:f<WB):x*f/WB<WB∧x*f/WB*WB+x*f%WB=x*f∧x*f%WB<WB∧(∀r<WB,x*f/WB+(r+x*f%WB)/WB<WB):=by
 have h1:x*f≤(WB-1)*(WB-1):=Qbh (by omega) (by omega);refine⟨?_,?_,QaI _ (by decide),fun r hr=> ?_⟩
 ·rw[Nat.div_lt_iff_lt_mul (by decide)];unfold WB at *;omega
 ·rw[Qam];exact QaP _ _
 ·have h2:=QaP (x*f) WB
  unfold WB at *;omega
def yV (xs L:List Nat) (b k r:Nat):Prop:=L.length=xs.length∧jJ L∧r<b∧jd (xs.drop k)=jd (L.drop k)*b+r
theorem yV.start (xs:List Nat) (b:Nat) (hb:0<b):yV xs (List.replicate xs.length 0) b xs.length 0:=
 ⟨by simp,K9 _,hb,by simp[jd]⟩
theorem J0 (L:List Nat) (k:Nat) (h:k<L.length):L.drop k=L[k]?.getD 0::L.drop (k+1):=by
 rw[QaF h,Qaa h];rfl
theorem yV.step {xs L:List Nat} {b k r:Nat} (h:yV xs L b (k+1) r) (hk:k<xs.length) (hb:0<b) (hq:(r*WB+xs[k]?.getD 0)/b<WB):
  yV xs (L.set k ((r*WB+xs[k]?.getD 0)/b)) b k ((r*WB+xs[k]?.getD 0)%b):=by
 obtain⟨h1,h2,h3,h4⟩:=h;refine⟨by simp[h1],zm h2 _ _ hq,QaI _ hb,?_⟩;rw[J0 xs k hk,J0 (L.set k _) k (by simp;omega),J4 _ _ _ (by omega),Qa9 (by omega)];simp only[jd,h4];have:=QaP (r*WB+xs[k]?.getD 0) b;generalize (r*WB+xs[k]?.getD 0)/b=q at *;generalize (r*WB+xs[k]?.getD 0)%b=r' at *
 have e:WB*(jd (L.drop (k+1))*b+r)=WB*jd (L.drop (k+1))*b+r*WB:=by rw[Qau,Qal,Qam WB r]
 rw[e,Qaz,Qam q b];omega
theorem VU {b r x:Nat} (hr:r<b) (hx:x<WB):(r*WB+x)/b<WB:=by
 rw[Nat.div_lt_iff_lt_mul (by omega),Qam WB b];have:(r+1)*WB≤b*WB:=Qas _ hr;rw[Qaz] at this;omega
theorem yV.last {xs L:List Nat} {b r:Nat} (h:yV xs L b 0 r):jd L=jd xs/b∧r=jd xs%b:=by
 obtain⟨h1,h2,h3,h4⟩:=h;simp only[Qa0] at h4;rw[h4];refine⟨?_,?_⟩
 ·rw[Qam,Nat.mul_add_div (by omega),Qbt h3];omega
 ·rw[Qam,Nat.mul_add_mod,Qbm h3]
theorem Rf (L:List Nat) (j d:Nat) (h:j<L.length):jd (L.set j d)+WB^j*L[j]?.getD 0=jd L+WB^j*d:=by
 rw[YL L j h,YL (L.set j d) j (by simpa using h),Kj _ _ _ _ (Nat.le_refl _),J4 L j d h,Qa9 (by omega)];simp only[Qau];omega
def zR (bs L0 L:List Nat) (f off k c:Nat):Prop:=L.length=L0.length∧jJ L∧L.drop (off+bs.length)=L0.drop (off+bs.length)∧c<WB ∧
 jd L+WB^(off+k)*c=jd L0+WB^off*(jd (bs.take k)*f)
theorem zR.start {bs L0:List Nat} (f off:Nat) (h:jJ L0):zR bs L0 L0 f off 0 0:=⟨rfl,h,rfl,by decide,by simp[jd]⟩
theorem zR.step {bs L0 L:List Nat} {f off k c d c':Nat} (h:zR bs L0 L f off k c) (hk:k<bs.length) (hlen:off+bs.length≤L0.length) (hd:d<WB) (hc:c'<WB)
  (he:d+WB*c'=L[off+k]?.getD 0+c+bs[k]?.getD 0*f):zR bs L0 (L.set (off+k) d) f off (k+1) c':=by
 obtain⟨h1,h2,h3,h4,h5⟩:=h;refine⟨by simp[h1],zm h2 _ _ hd,by rw[Qa9 (by omega)];exact h3,hc,?_⟩;have hs:=Rf L (off+k) d (by omega);rw[qt bs,show off+(k+1)=(off+k)+1 from by omega,QaD]
 have e:WB^(off+k)*(d+WB*c')=WB^(off+k)*(L[off+k]?.getD 0+c+bs[k]?.getD 0*f):=by rw[he]
 have e2:WB^off*(WB^k*bs[k]?.getD 0*f)=WB^(off+k)*(bs[k]?.getD 0*f):=by rw[Qbj,Qal,Qal]
 simp only[Qau,Qaz,e2] at e hs h5 ⊢;rw[Qal (WB^(off+k)) WB c'];omega
theorem SW (x f c z:Nat) (hx:x<WB) (hf:f<WB) (hc:c<WB) (hz:z<WB):
  ∃hi lo l1 o1 d o2:Nat,x*f=hi*WB+lo∧lo<WB∧lo+c=l1+WB*o1∧l1<WB∧o1≤1∧hi+o1<WB∧z+l1=d+WB*o2∧d<WB∧o2≤1∧hi+o1+o2<WB∧d+WB*(hi+o1+o2)=z+c+x*f:=by
 have h1:x*f≤(WB-1)*(WB-1):=Qbh (by omega) (by omega);have h2:=QaP (x*f) WB;have h3:=QaI (x*f) (show 0<WB by decide);generalize x*f/WB=hi at *;generalize x*f%WB=lo at *;generalize x*f=p at *;unfold WB at *;refine⟨hi,lo,(lo+c)%18446744073709551616,(lo+c)/18446744073709551616,(z+(lo+c)%18446744073709551616)%18446744073709551616,(z+(lo+c)%18446744073709551616)/18446744073709551616,?_,?_,?_,?_,?_,?_,?_,?_,?_,?_,?_⟩ <;> omega
def zy (xs bs L:List Nat) (k:Nat):Prop:=L.length=xs.length+bs.length∧jJ L∧jd L=jd (xs.take k)*jd bs∧L.drop (k+bs.length)=List.replicate (xs.length-k) 0
theorem zy.start (xs bs:List Nat):zy xs bs (List.replicate (xs.length+bs.length) 0) 0:=by
 refine⟨by simp,K9 _,?_,by simp⟩;simp only[QbL,jd,Nat.zero_mul]
 induction (xs.length+bs.length) with
 | zero=>rfl
 | succ n ih=>simp[List.replicate_succ,jd,ih]
theorem zy.step {xs bs L L':List Nat} {k c:Nat} (h:zy xs bs L k) (hk:k<xs.length) (ha:zR bs L L' (xs[k]?.getD 0) k bs.length c):
  zy xs bs (L'.set (k+bs.length) c) (k+1):=by
 obtain⟨h1,h2,h3,h4⟩:=h;obtain⟨a1,a2,a3,a4,a5⟩:=ha;have hs:=Rf L' (k+bs.length) c (by omega)
 have hz:L'[k+bs.length]?.getD 0=0:=by
  have:L'.drop (k+bs.length)=List.replicate (xs.length-k) 0:=by rw[a3,h4]
  have e:(L'.drop (k+bs.length))[0]?.getD 0=L'[k+bs.length]?.getD 0:=by simp
  rw[←e,this];rw[Qbk];split <;> rfl
 rw[hz] at hs;refine⟨by simp;omega,zm a2 _ _ a4,?_,?_⟩
 ·rw[qt xs]
  rw[Qad (Nat.le_refl _),h3] at a5;simp only[Qaz];rw[Qal,Qam (xs[k]?.getD 0) (jd bs)];omega
 ·rw[show k+1+bs.length=k+bs.length+1 from by omega,Qa9 (by omega),←QbM,a3,h4,List.drop_replicate]
  congr 1
theorem zy.last {xs bs L:List Nat} (h:zy xs bs L xs.length):jd L=jd xs*jd bs:=by
 obtain⟨h1,h2,h3,h4⟩:=h;rw[h3,Qad (Nat.le_refl _)]
end Go.Proofs.YteagkgagdelklaaGreatDoor
namespace Go.Proofs.YteagkgagdelklaaGreatDoor
open Go.RowKit Go.Lib
def xz (r:Int):Bool:=decide (48≤r∧r≤57)
theorem J5 (r:Int) (w:World):Calls Tryz.prog 74 #[.int .i32 r] w fun e w'=>e = .returned (.bool (xz r))∧w=w':=by
 by_cases h1:48≤r
 ·by_cases h2:r≤57
  ·have hd:xz r=true:=by simp[xz];omega
   have Hd:=hid hd;clear hd;go_enter Tryz.func74,Tryz.ntmps74
   go_wp2
   go_ret;exact⟨by rw[Hd.out];rfl,rfl⟩
  ·have hd:xz r=false:=by simp[xz];omega
   have Hd:=hid hd;clear hd
   have hd2:decide (r≤57)=false:=by simpa using h2
   go_enter Tryz.func74,Tryz.ntmps74
   go_wp2
   go_ret;exact⟨by rw[Hd.out];rfl,rfl⟩
 ·have hd:xz r=false:=by simp[xz];omega
  have Hd:=hid hd;clear hd
  have hd2:decide (48≤r)=false:=by simpa using h1
  go_enter Tryz.func74,Tryz.ntmps74
  go_wp2
  go_ret;exact⟨by rw[Hd.out];rfl,rfl⟩
def jF (l:List UInt8):Prop:=j7 l∧(l=[48]∨(l≠[]∧l.head? ≠some 48))
def CE (s:ByteArray) (w:World) (e:Ending) (w':World):Prop:=∃b:Bool,e = .returned (.bool b)∧(b=true↔jF s.data.toList)∧Below w.heap.size w w'
theorem xI (s:ByteArray) (k:Nat) (h:k<s.size):s.data.toList[k]? =some (s[k]):=by
 have:k<s.data.toList.length:=by simpa using h
 rw[Qaa this];simp;rfl
theorem WH (s:ByteArray) (w:World) (hs:s.size≤9223372036854775807):
  Calls Tryz.prog 79 #[.string s] w (CE s w):=by
 go_enter Tryz.func79,Tryz.ntmps79
 go_wp2
 go_loopw [4,7] (fun _ _ wr=>∃pos:Nat,wr=w.iter s pos∧pos≤s.size∧Hid (j7 (s.data.toList.take pos))) (fun _ _ wr=>s.size-wr.iterPos w.heap.size)
 case atStart=>exact⟨0,rfl,by omega,hid (fun c hc=>by simp at hc)⟩
 case round=>
  obtain⟨pos,rfl,hp,hd⟩:=hrel;by_cases hlt:pos<s.size
  ·by_cases hasc:(s[pos]).toNat<128
   ·have hnx:=fun ty=>run_next_ascii (P:=Tryz.prog) w s pos ty hlt hasc
    by_cases hdg:xz ((s[pos]).toNat:Int)=true
    ·go_wp2_with (go_at_call 74;refine(J5 _ _).mono ?_;rintro e w' ⟨rfl,rfl⟩;rw[hdg])
     refine⟨⟨pos+1,rfl,by omega,hid ?_⟩,by rw[World.iterPos_iter,World.iterPos_iter];omega⟩;intro c hc;rw[Qa5,xI s pos hlt] at hc;rcases List.mem_append.1 hc with h1 | h1
     ·exact hd.out c h1
     ·have hcc:c=s[pos]:=by simpa using h1
      subst hcc;have:=QaL hdg;omega
    ·have hdg':xz ((s[pos]).toNat:Int)=false:=by simpa using hdg
     have hno:¬jF s.data.toList:=by
      intro hn;have:=hn.1 (s[pos]) (Qab (xI s pos hlt));have h2:=of_decide_eq_false hdg';omega
     have Hno:=hid hno;clear hno hdg
     go_wp2_with (go_at_call 74;refine(J5 _ _).mono ?_;rintro e w' ⟨rfl,rfl⟩;rw[hdg'])
     go_ret;exact⟨false,rfl,by simp;exact Hno.out,(Below.refl _ _).alloc (Nat.le_refl _) _⟩
   ·have hnx:=fun ty=>run_next_any (P:=Tryz.prog) w s pos ty hlt
    obtain⟨hr1,hr2⟩:=decode_high s pos hlt (by omega)
    have hdg':xz ((Utf8.decode s pos).1:Int)=false:=by unfold xz;simp;omega
    have hno:¬jF s.data.toList:=by
     intro hn;have:=hn.1 (s[pos]) (Qab (xI s pos hlt));omega
    have Hno:=hid hno;clear hno hasc;generalize Utf8.decode s pos=dd at *
    go_wp2_with (go_at_call 74;refine(J5 _ _).mono ?_;rintro e w' ⟨rfl,rfl⟩;rw[hdg'])
    go_ret;exact⟨false,rfl,by simp;exact Hno.out,(Below.refl _ _).alloc (Nat.le_refl _) _⟩
  ·have hnx:=fun ty=>run_next_end (P:=Tryz.prog) w s pos ty hlt
   have hall:j7 s.data.toList:=by
    have:=hd.out
    rwa [Qad (by simp;omega)] at this
   have Hall:=hid hall;clear hall hd;have htl:s.toList=s.data.toList:=ByteArray.toList_eq s;have Htl:=hid htl;clear htl;by_cases h1:s.toList=[48]
   ·have hnum:jF s.data.toList:=⟨Hall.out,.inl (by rw[←Htl.out];exact h1)⟩
    have Hnum:=hid hnum;clear hnum
    go_wp2
    go_ret;exact⟨true,rfl,by simp;exact Hnum.out,(Below.refl _ _).alloc (Nat.le_refl _) _⟩
   ·by_cases h2:s.toList=[]
    ·have hno:¬jF s.data.toList:=by
      rw[←Htl.out,h2];rintro ⟨_,h3 | h3⟩
      ·cases h3
      ·exact h3.1 rfl
     have Hno:=hid hno;clear hno
     go_wp2
     go_ret;exact⟨false,rfl,by simp;exact Hno.out,(Below.refl _ _).alloc (Nat.le_refl _) _⟩
    ·have h0:0<s.size:=by
      rcases QaA s.size with h3 | h3
      ·exfalso;apply h2;rw[Htl.out];exact List.length_eq_zero_iff.1 (by simpa using h3)
      ·exact h3
     have hhd:s.data.toList.head? =some s[0]:=by rw[List.head?_eq_getElem?];exact xI s 0 h0
     have hb1:(s.toList==[48])=false:=by simpa using h1
     have hb2:s.toList.isEmpty=false:=by simpa using h2
     by_cases h4:(s[0]).toNat=48
     ·have hno:¬jF s.data.toList:=by
       rintro ⟨_,h3 | h3⟩
       ·exact h1 (by rw[Htl.out];exact h3)
       ·apply h3.2;rw[hhd];congr 1;exact UInt8.toNat_inj.1 h4
      have Hno:=hid hno;have H4:=hid h4
      have hb3:(((s[0]).toNat:Int) != 48)=false:=by rw[h4];rfl
      clear hno h4 hhd h1 h2
      go_wp2
      go_ret;exact⟨false,rfl,by simp;exact Hno.out,(Below.refl _ _).alloc (Nat.le_refl _) _⟩
     ·have hyes:jF s.data.toList:=by
       refine⟨Hall.out,.inr ⟨by rw[←Htl.out];exact h2,?_⟩⟩;rw[hhd];intro e;apply h4;rw[QaE e];rfl
      have Hyes:=hid hyes
      have hb3:(((s[0]).toNat:Int) != 48)=true:=by simpa using (by omega:¬((s[0]).toNat:Int)=48)
      clear hyes h4 hhd h1 h2
      go_wp2
      go_ret;exact⟨true,rfl,by simp;exact Hyes.out,(Below.refl _ _).alloc (Nat.le_refl _) _⟩
end Go.Proofs.YteagkgagdelklaaGreatDoor
namespace Go.Proofs.YteagkgagdelklaaGreatDoor
open Go.RowKit
theorem QB (x y hi lo:Nat) (w:World) (hx:x<WB) (hy:y<WB) (h:x*y=hi*WB+lo) (hlo:lo<WB):
  Calls Tryz.prog 102 #[.int .u64 x,.int .u64 y] w fun e w'=>e = .returned (.tuple #[.int .u64 hi,.int .u64 lo])∧w=w':=by
 refine(Tryz.bits_Mul64 x y hx hy w).mono fun e w' ⟨h1,h2⟩=>⟨?_,h2.symm⟩
 have e1:x*y/18446744073709551616=hi:=by unfold WB at *;omega
 have e2:x*y%18446744073709551616=lo:=by unfold WB at *;omega
 rw[h1,e1,e2]
theorem VR (lo y q r:Nat) (w:World) (hl:lo<WB) (h:lo=q*y+r) (hr:r<y):
  Calls Tryz.prog 144 #[.int .u64 0,.int .u64 lo,.int .u64 y] w fun e w'=>e = .returned (.tuple #[.int .u64 q,.int .u64 r]) ∧ ∃n,w'=w.drewN n:=by
 have hy0:((y:Int)==0)=false:=by simpa using (by omega:¬(y:Int)=0)
 have hq:lo/y=q:=by rw[h,Qam,Nat.mul_add_div (by omega),Qbt hr];omega
 have hm:lo%y=r:=by rw[h,Qam,Nat.mul_add_mod,Qbm hr]
 have Hq:=Lib.hid hq;clear hq;have Hm:=Lib.hid hm;clear hm;have H:=Lib.hid h;clear h;unfold WB at hl;go_enter Tryz.func144,Tryz.ntmps144
 go_wp2
 go_quiet (fail)
 go_wp2
 go_ret2;refine⟨?_,nq,rfl⟩
 have e1:((lo:Int)/(y:Int))=(q:Int):=by rw[←Hq.out];rfl
 have e2:((lo:Int)%(y:Int))=(r:Int):=by rw[←Hm.out];rfl
 have e3:q≤lo:=by rw[←Hq.out];exact QaW _ _
 exact zi (by rw[e1,IntWalk.u64_in _ (by omega)]) e2
def RG:Prop:=∀(hi lo y q r:Nat) (w:World),hi<y→lo<WB→y<WB→hi*WB+lo=q*y+r→r<y →
  Calls Tryz.prog 144 #[.int .u64 hi,.int .u64 lo,.int .u64 y] w fun e w'=>e = .returned (.tuple #[.int .u64 q,.int .u64 r]) ∧ ∃n,w'=w.drewN n
theorem Pu (a n:Int) (hn:1≤n): -n<a.tmod n∧a.tmod n<n:=by
 have h1:=Int.tmod_lt_of_pos a (show 0<n by omega);have h2:=Int.lt_tmod_of_pos a (show 0<n by omega);omega
theorem MC (a n:Int) (hn:1≤n) (hn2:n≤4000000000000000000):(wrap64 (a.tmod n+n)).tmod n=a%n:=by
 have hb:=Pu a n hn;rw[IntWalk.wrap64_in _ (by omega),Int.tmod_eq_emod_of_nonneg (by omega),Int.add_emod_right];have h:=Int.mul_tdiv_add_tmod a n
 have:a%n=(n*a.tdiv n+a.tmod n)%n:=by rw[h]
 rw[this,Int.mul_add_emod_self_left]
theorem QS (a n:Int) (w:World) (hn:1≤n) (hn2:n≤4000000000000000000):
  Calls Tryz.prog 99 #[.int .i64 a,.int .i64 n] w fun e w'=>e = .returned (.int .i64 (a%n))∧w=w':=by
 go_enter Tryz.func99,Tryz.ntmps99
 go_wp2
 go_ret;exact⟨JK (MC a n hn hn2),rfl⟩
theorem Q7 (a b:Nat) (w:World):
  Calls Tryz.prog 50 #[.int .u64 a,.int .u64 b] w fun e w'=>e = .returned (.int .u64 (Nat.gcd a b)) ∧ ∃n,w'=w.drewN n:=by
 go_enter Tryz.func50,Tryz.ntmps50
 go_wp2
 go_loopw [0,1] (fun u v wr=>∃x y n:Nat,u = .int .u64 x∧v = .int .u64 y∧Nat.gcd x y=Nat.gcd a b∧wr=w.drewN n) (fun _ v _=>(intOf v).toNat)
 case atStart=>exact⟨a,b,0,rfl,rfl,rfl,rfl⟩
 case round=>
  obtain⟨x,y,n,rfl,rfl,hg,rfl⟩:=hrel;by_cases hy:y=0
  ·subst hy
   go_wp2
   go_ret;exact⟨JK (by rw[←hg,Qcg]),n,rfl⟩
  ·have hb:((y:Int) != 0)=true:=by simpa using hy
   go_wp2
   go_quiet (fail)
   go_wp2
   go_roundw
   case rel=>exact⟨y,x%y,n+nq,rfl,by simp,by rw[←hg,Qbb x y,Qcp y x,Qbb],by rw[World.drewN_drewN]⟩
   case measure=>simp[intOf];exact QaI _ (by omega)
theorem WV (a:Int) (w:World) (h1: -9223372036854775808≤a) (h2:a≤9223372036854775807):
  Calls Tryz.prog 51 #[.int .i64 a] w fun e w'=>e = .returned (.int .u64 a.natAbs)∧w=w':=by
 by_cases h:a<0
 ·go_enter Tryz.func51,Tryz.ntmps51
  go_wp2
  go_ret;exact⟨JK (by rw[IntKind.wrap_u64,IntKind.wrap_u64];omega),rfl⟩
 ·go_enter Tryz.func51,Tryz.ntmps51
  go_wp2
  go_ret;exact⟨JK (by omega),rfl⟩
theorem UV (a l h:Int) (w:World) (h1:l≤a) (h2:a≤h):
  Calls Tryz.prog 52 #[.int .i64 a,.int .i64 l,.int .i64 h] w fun e w'=>e = .returned (.int .i64 0)∧w=w':=by
 go_enter Tryz.func52,Tryz.ntmps52
 go_wp2
 go_ret;exact⟨rfl,rfl⟩
theorem UU (a l h:Int) (w:World) (h1:a<l∨h<a):
  Calls Tryz.prog 52 #[.int .i64 a,.int .i64 l,.int .i64 h] w fun e w'=>e = .returned (.int .i64 3)∧w=w':=by
 by_cases h2:a<l
 ·go_enter Tryz.func52,Tryz.ntmps52
  go_wp2
  go_ret;exact⟨rfl,rfl⟩
 ·have h3:h<a:=by omega
  go_enter Tryz.func52,Tryz.ntmps52
  go_wp2
  go_ret;exact⟨rfl,rfl⟩
theorem Tt (a:Int) (w:World) (h1: -999999999≤a) (h2:a≤999999999):
  Calls Tryz.prog 49 #[.int .i64 a] w fun e w'=>e = .returned (.int .i64 0)∧w=w':=by
 go_enter Tryz.func49,Tryz.ntmps49
 go_wp2_with (go_at_call 52;refine(UV _ _ _ _ h1 h2).mono ?_;rintro e w' ⟨rfl,rfl⟩)
 go_ret;exact⟨rfl,rfl⟩
theorem Ts (a:Int) (w:World) (h:a < -999999999∨999999999<a):
  Calls Tryz.prog 49 #[.int .i64 a] w fun e w'=>e = .returned (.int .i64 3)∧w=w':=by
 go_enter Tryz.func49,Tryz.ntmps49
 go_wp2_with (go_at_call 52;refine(UU _ _ _ _ h).mono ?_;rintro e w' ⟨rfl,rfl⟩)
 go_ret;exact⟨rfl,rfl⟩
end Go.Proofs.YteagkgagdelklaaGreatDoor
namespace Go.Proofs.YteagkgagdelklaaGreatDoor
open Go.RowKit Go.Lib
theorem VQ (d:Nat) (h:d<10):(ByteArray.mk #[48,49,50,51,52,53,54,55,56,57]).extract d (d+1)=⟨#[UInt8.ofNat (48+d)]⟩:=by
 have:∀d:Fin 10,(ByteArray.mk #[48,49,50,51,52,53,54,55,56,57]).extract d.1 (d.1+1)=⟨#[UInt8.ofNat (48+d.1)]⟩:=by decide +kernel
 exact this ⟨d,h⟩
def Jo (n y:Nat) (acc:List UInt8):Prop:=(y=0∧acc≠[]∧decDigits n=acc)∨(decDigits n=decDigits y++acc∧(y=0→acc=[]))
theorem Jo.step {n y:Nat} {acc:List UInt8} (h:Jo n y acc) (hc:0<y∨acc.length<1):Jo n (y/10) (UInt8.ofNat (48+y%10)::acc):=by
 rcases h with ⟨h1,h2,h3⟩ | ⟨h1,h2⟩
 ·exact absurd (List.length_eq_zero_iff.1 (by omega)) h2
 ·by_cases h10:y<10
  ·refine .inl ⟨by omega,by simp,?_⟩
   rw[h1,decDigits_one h10,Qbm h10];rfl
  ·refine .inr ⟨?_,fun e=>by omega⟩
   rw[h1,JY (by omega)];simp
theorem Jo.done {n y:Nat} {acc:List UInt8} (h:Jo n y acc) (h1:¬0<y) (h2:¬acc.length<1):decDigits n=acc:=by
 rcases h with ⟨_,_,h3⟩ | ⟨_,h4⟩
 ·exact h3
 ·rw[h4 (by omega)] at h2;simp at h2
theorem Jo.len {n y:Nat} {acc:List UInt8} (h:Jo n y acc):acc.length≤(decDigits n).length:=by
 rcases h with ⟨_,_,h3⟩ | ⟨h3,_⟩
 ·rw[h3];exact Nat.le_refl _
 ·rw[h3,Qaf];omega
theorem Za {n:Nat} (h:n<10000000000000000000):(decDigits n).length≤19:=by
 rw[decDigits_length];exact J9 18 n h
def qh (l:List UInt8) (w:World) (e:Ending) (w':World):Prop:=e = .returned (.string ⟨l.toArray⟩)∧Below w.heap.size w w'
theorem KF (c:UInt8) (l:List UInt8):(ByteArray.mk #[c])++(ByteArray.mk l.toArray)=⟨(c::l).toArray⟩:=by
 rw[ByteArray.mk_append_mk];congr 1
theorem Zc (n:Nat) (w:World) (hn:n≤9223372036854775807):
  Calls Tryz.prog 172 #[.int .i64 n,.int .i64 1] w (qh (decDigits n) w):=by
 have HL:=hid (Za (n:=n) (by omega));go_enter Tryz.func172,Tryz.ntmps172
 go_wp2
 go_loopg [0,5] (n+1) (fun g y s wr=>∃(m:Nat) (acc:List UInt8),y = .int .i64 m∧s = .string ⟨acc.toArray⟩∧m≤n∧(g=m+1∨(g=0∧m=0∧1≤acc.length))∧Hid (Jo n m acc)∧Below w.heap.size w wr)
 case atStart=>exact⟨n,[],rfl,rfl,Nat.le_refl _,.inl rfl,hid (.inr ⟨by simp,fun _=>rfl⟩),Below.refl _ _⟩
 case round=>
  obtain⟨m,acc,rfl,rfl,hm,hg,hd,hB⟩:=hrel;have hacc:acc.length≤19:=Qap hd.out.len HL.out
  have hal:(ByteArray.mk acc.toArray).size=acc.length:=by simp[ByteArray.size]
  by_cases h0:0<m
  ·have h0':(0:Int)<(m:Int):=by omega
   have HS:=hid (hd.out.step (.inl h0));have hq:m/10<m:=Nat.div_lt_self h0 (by decide);have HT:=hid (VQ (m%10) (QaI _ (by decide)));have hr9:m%10<10:=QaI _ (by decide);clear hd
   go_wp2
   go_roundg (m/10+1)
   case rel=>exact⟨m/10,_,by go_num,by rw[HT.out,KF],by omega,.inl rfl,HS,hB⟩
   case measure=>omega
  ·have hm0:m=0:=by omega
   subst hm0;by_cases h1:acc.length<1
   ·have hnil:acc=[]:=List.length_eq_zero_iff.1 (by omega)
    subst hnil;have HS:=hid (hd.out.step (.inr (by decide)));have hsz:(ByteArray.mk #[]).size=0:=rfl;clear hd
    go_wp2
    go_roundg 0
    case rel=>exact⟨0,_,rfl,rfl,by omega,.inr ⟨rfl,rfl,by decide⟩,HS,hB⟩
    case measure=>rcases hg with hg | hg <;> simp_all
   ·have HE:=hid (hd.out.done (by omega) h1)
    have h1':¬((acc.length:Int)<1):=by omega
    clear hd
    go_wp2
    go_ret;exact⟨by rw[HE.out];rfl,hB⟩
def Ku (n y:Nat) (acc:List UInt8):Prop:=acc.length≤9∧qZ 9 n=qZ (9-acc.length) y++acc∧y<10^(9-acc.length)
theorem Ku.step {n y:Nat} {acc:List UInt8} (h:Ku n y acc) (hc:acc.length<9):Ku n (y/10) (UInt8.ofNat (48+y%10)::acc):=by
 obtain⟨h1,h2,h3⟩:=h
 obtain⟨j,hj⟩:∃j,9-acc.length=j+1:=⟨8-acc.length,by omega⟩
 rw[hj] at h2 h3;refine⟨by simp;omega,?_,?_⟩
 ·rw[h2,show 9-(UInt8.ofNat (48+y%10)::acc).length=j from by simp;omega,qZ];simp
 ·rw[show 9-(UInt8.ofNat (48+y%10)::acc).length=j from by simp;omega]
  rw[QaD] at h3;omega
theorem Ku.done {n y:Nat} {acc:List UInt8} (h:Ku n y acc) (hc:¬acc.length<9):qZ 9 n=acc∧y=0:=by
 obtain⟨h1,h2,h3⟩:=h;rw[show 9-acc.length=0 from by omega] at h2 h3;exact⟨by rw[h2];rfl,by simpa using h3⟩
theorem Ny (n:Nat) (w:World) (hn:n<1000000000):
  Calls Tryz.prog 172 #[.int .i64 n,.int .i64 9] w (qh (qZ 9 n) w):=by
 go_enter Tryz.func172,Tryz.ntmps172
 go_wp2
 go_loopg [0,5] 9 (fun g y s wr=>∃(m:Nat) (acc:List UInt8),y = .int .i64 m∧s = .string ⟨acc.toArray⟩∧m≤n∧g+acc.length=9∧Hid (Ku n m acc)∧Below w.heap.size w wr)
 case atStart=>exact⟨n,[],rfl,rfl,Nat.le_refl _,rfl,hid ⟨by simp,by simp,by simpa using hn⟩,Below.refl _ _⟩
 case round=>
  obtain⟨m,acc,rfl,rfl,hm,hg,hd,hB⟩:=hrel
  have hal:(ByteArray.mk acc.toArray).size=acc.length:=by simp[ByteArray.size]
  cases gk with
  | zero=>
   obtain⟨HE0,hm0⟩:=hd.out.done (by omega);have HE:=hid HE0;clear HE0
   have h1':¬((acc.length:Int)<9):=by omega
   subst hm0;clear hd
   go_wp2
   go_ret;exact⟨by rw[HE.out];rfl,hB⟩
  | succ gh=>
   have HS:=hid (hd.out.step (by omega));have HT:=hid (VQ (m%10) (QaI _ (by decide)));have hr9:m%10<10:=QaI _ (by decide)
   have h1':((acc.length:Int)<9):=by omega
   clear hd;by_cases h0:0<m
   ·have h0':(0:Int)<(m:Int):=by omega
    go_wp2
    go_roundg gh
    case rel=>exact⟨m/10,_,by go_num,by rw[HT.out,KF],by omega,by simp;omega,HS,hB⟩
    case measure=>omega
   ·have hm0:m=0:=by omega
    subst hm0
    go_wp2
    go_roundg gh
    case rel=>exact⟨0,_,rfl,by rw[←KF];rfl,by omega,by simp;omega,HS,hB⟩
    case measure=>omega
theorem Aa (a b:Nat) (w:World) (ha:a≤9223372036854775807) (hb:b≤9223372036854775807):
  Calls Tryz.prog 171 #[.int .i64 a,.int .i64 b] w (fun e w'=>e = .returned (.int .i64 (Nat.gcd a b:Nat))∧Below w.heap.size w w'):=by
 go_enter Tryz.func171,Tryz.ntmps171
 go_wp2
 go_loopg [0,1] b (fun g x y wr=>∃(p q:Nat),x = .int .i64 p∧y = .int .i64 q∧p≤9223372036854775807∧q≤9223372036854775807∧g=q∧Hid (Nat.gcd p q=Nat.gcd a b)∧Below w.heap.size w wr)
 case atStart=>exact⟨a,b,rfl,rfl,ha,hb,rfl,hid rfl,Below.refl _ _⟩
 case round=>
  obtain⟨p,q,rfl,rfl,hp,hq,rfl,hd,hB⟩:=hrel;by_cases h0:0<gk
  ·have h0':(0:Int)<(gk:Int):=by omega
   have hlt:p%gk<gk:=QaI _ h0;have HS:Hid (Nat.gcd gk (p%gk)=Nat.gcd a b):=hid (by rw[←hd.out,Qbb p gk,Qcp gk p,Qbb]);clear hd
   go_wp2_with (go_quiet (fail))
   go_roundg (p%gk)
   case rel=>exact⟨gk,p%gk,rfl,by go_num,hq,by omega,rfl,HS,below_drewN hB nq⟩
   case measure=>exact hlt
  ·have hm0:gk=0:=by omega
   subst hm0;have HE:Hid (Nat.gcd a b=p):=hid (by rw[←hd.out];simp);clear hd
   go_wp2
   go_ret;exact⟨by rw[HE.out];rfl,hB⟩
def KN (i:Nat) (c:UInt8):Prop:=xA (c.toNat:Int)=true∨(i≠0∧(xz (c.toNat:Int)=true∨c.toNat=95))
instance (i:Nat) (c:UInt8):Decidable (KN i c):=by unfold KN;infer_instance
def QD (l:List UInt8) (k:Nat):Prop:=∀i,i<k → ∀c,l[i]? =some c→KN i c
def Qe (l:List UInt8):Prop:=(l≠[]∧l.length≤24)∧QD l l.length
theorem QD.succ {l:List UInt8} {k:Nat} {c:UInt8} (h:QD l k) (hc:l[k]? =some c) (hn:KN k c):QD l (k+1):=fun i hi c' hc'=>by
 rcases Qae i k with h1 | h1
 ·exact h i h1 c' hc'
 ·have:i=k:=by omega
  subst this;rw[hc] at hc';cases hc';exact hn
theorem Gu {l:List UInt8} {k:Nat} {c:UInt8} (hc:l[k]? =some c) (hn:¬KN k c):¬Qe l:=fun h=>hn (h.2 k (List.getElem?_eq_some_iff.1 hc).1 c hc)
def Cl (s:ByteArray) (w:World) (e:Ending) (w':World):Prop:=∃b:Bool,e = .returned (.bool b)∧(b=true↔Qe s.data.toList)∧Below w.heap.size w w'
theorem U2 (s:ByteArray) (w:World) (hs:s.size≤9223372036854775807):
  Calls Tryz.prog 32 #[.string s] w (Cl s w):=by
 by_cases h0:s.size=0
 ·have hno:¬Qe s.data.toList:=fun h=>h.1.1 (List.length_eq_zero_iff.1 (by simpa using h0))
  have Hno:=hid hno
  have hb:((s.size:Int)==0)=true:=by rw[h0];rfl
  clear hno h0;go_enter Tryz.func32,Tryz.ntmps32
  go_wp2
  go_ret;exact⟨false,rfl,by simp;exact Hno.out,Below.refl _ _⟩
 have hb0:((s.size:Int)==0)=false:=by simpa using h0
 by_cases h24:s.size≤24
 ·have hb1:¬((s.size:Int)>24):=by omega
  have hnb:s.data.toList≠[]∧s.data.toList.length≤24:=⟨fun h=>h0 (by have:=congrArg List.length h;simpa using this),by simpa using h24⟩
  have HNB:=hid hnb;clear hnb h0;go_enter Tryz.func32,Tryz.ntmps32
  go_wp2
  go_loopw [3,4,15] (fun _ _ _ wr=>∃pos:Nat,wr=w.iter s pos∧pos≤s.size∧Hid (QD s.data.toList pos)) (fun _ _ _ wr=>s.size-wr.iterPos w.heap.size)
  case atStart=>exact⟨0,rfl,by omega,hid (fun i hi=>by omega)⟩
  case round=>
   obtain⟨pos,rfl,hp,hd⟩:=hrel;by_cases hlt:pos<s.size
   ·have hge:=xI s pos hlt
    by_cases hasc:(s[pos]).toNat<128
    ·have hnx:=fun ty=>run_next_ascii (P:=Tryz.prog) w s pos ty hlt hasc
     have HY:=hid (fun hn=>hd.out.succ hge hn);have HN:=hid (fun hn=>Gu hge hn);clear hge hd;generalize s[pos]=c at *;have HA:Hid (KN pos c↔(xA (c.toNat:Int)=true∨(pos≠0∧(xz (c.toNat:Int)=true∨c.toNat=95)))):=hid Iff.rfl
     cases hL:xA (c.toNat:Int) with
     | true=>
      have HR:=hid (HY.out (HA.out.2 (.inl hL)));clear HY HN HA
      go_wp2_with (go_at_call 73;refine(J6 _ _).mono ?_;rintro e w' ⟨rfl,rfl⟩;rw[hL])
      exact⟨⟨pos+1,rfl,by omega,HR⟩,by rw[World.iterPos_iter,World.iterPos_iter];omega⟩
     | false=>
      by_cases hp0:pos=0
      ·have Hno:=hid (HN.out (fun h=>by rcases HA.out.1 h with h | h;rw[hL] at h;cases h;exact h.1 hp0))
       have hb2:((pos:Int)==0)=true:=by rw[hp0];rfl
       clear HY HN HA hp0
       go_wp2_with (go_at_call 73;refine(J6 _ _).mono ?_;rintro e w' ⟨rfl,rfl⟩;rw[hL])
       go_ret;exact⟨false,rfl,by simp;exact Hno.out,(Below.refl _ _).alloc (Nat.le_refl _) _⟩
      ·have hb2:((pos:Int)==0)=false:=by simpa using hp0
       cases hD:xz (c.toNat:Int) with
       | true=>
        have HR:=hid (HY.out (HA.out.2 (.inr ⟨hp0,.inl hD⟩)));clear HY HN HA hp0
        go_wp2_with (first | (go_at_call 73;refine(J6 _ _).mono ?_;rintro e w' ⟨rfl,rfl⟩;rw[hL]) | (go_at_call 74;refine(J5 _ _).mono ?_;rintro e w' ⟨rfl,rfl⟩;rw[hD]))
        exact⟨⟨pos+1,rfl,by omega,HR⟩,by rw[World.iterPos_iter,World.iterPos_iter];omega⟩
       | false=>
        by_cases hU:c.toNat=95
        ·have HR:=hid (HY.out (HA.out.2 (.inr ⟨hp0,.inr hU⟩)))
         have hb3:((c.toNat:Int) != 95)=false:=by rw[hU];rfl
         clear HY HN HA hp0 hU
         go_wp2_with (first | (go_at_call 73;refine(J6 _ _).mono ?_;rintro e w' ⟨rfl,rfl⟩;rw[hL]) | (go_at_call 74;refine(J5 _ _).mono ?_;rintro e w' ⟨rfl,rfl⟩;rw[hD]))
         exact⟨⟨pos+1,rfl,by omega,HR⟩,by rw[World.iterPos_iter,World.iterPos_iter];omega⟩
        ·have Hno:=hid (HN.out (fun h=>by
          rcases HA.out.1 h with h | ⟨_,h | h⟩
          ·rw[hL] at h;cases h
          ·rw[hD] at h;cases h
          ·exact hU h))
         have hb3:((c.toNat:Int) != 95)=true:=by simpa using (by omega:¬(c.toNat:Int)=95)
         clear HY HN HA hp0 hU
         go_wp2_with (first | (go_at_call 73;refine(J6 _ _).mono ?_;rintro e w' ⟨rfl,rfl⟩;rw[hL]) | (go_at_call 74;refine(J5 _ _).mono ?_;rintro e w' ⟨rfl,rfl⟩;rw[hD]))
         go_ret;exact⟨false,rfl,by simp;exact Hno.out,(Below.refl _ _).alloc (Nat.le_refl _) _⟩
    ·have hnx:=fun ty=>run_next_any (P:=Tryz.prog) w s pos ty hlt
     obtain⟨hr1,hr2⟩:=decode_high s pos hlt (by omega)
     have hD:xz ((Utf8.decode s pos).1:Int)=false:=by unfold xz;simp;omega
     have hL:xA ((Utf8.decode s pos).1:Int)=false:=by unfold xA;simp;omega
     have hb3:(((Utf8.decode s pos).1:Int) != 95)=true:=by simpa using (by omega:¬((Utf8.decode s pos).1:Int)=95)
     have Hno:=hid (Gu hge (by
      rintro (h | ⟨_,h | h⟩)
      ·have:=QaL h;omega
      ·have:=QaL h;omega
      ·omega))
     clear hge hd hasc;by_cases hp0:pos=0
     ·have hb2:((pos:Int)==0)=true:=by rw[hp0];rfl
      clear hp0;generalize Utf8.decode s pos=dd at *
      go_wp2_with (go_at_call 73;refine(J6 _ _).mono ?_;rintro e w' ⟨rfl,rfl⟩;rw[hL])
      go_ret;exact⟨false,rfl,by simp;exact Hno.out,(Below.refl _ _).alloc (Nat.le_refl _) _⟩
     ·have hb2:((pos:Int)==0)=false:=by simpa using hp0
      clear hp0;generalize Utf8.decode s pos=dd at *
      go_wp2_with (first | (go_at_call 73;refine(J6 _ _).mono ?_;rintro e w' ⟨rfl,rfl⟩;rw[hL]) | (go_at_call 74;refine(J5 _ _).mono ?_;rintro e w' ⟨rfl,rfl⟩;rw[hD]))
      go_ret;exact⟨false,rfl,by simp;exact Hno.out,(Below.refl _ _).alloc (Nat.le_refl _) _⟩
   ·have hnx:=fun ty=>run_next_end (P:=Tryz.prog) w s pos ty hlt
    have hlen:s.data.toList.length=s.size:=by simp
    have Hyes:Hid (Qe s.data.toList):=hid ⟨HNB.out,fun i hi c hc=>hd.out i (by omega) c hc⟩;clear hlen;clear hd
    go_wp2
    go_ret;exact⟨true,rfl,by simp;exact Hyes.out,(Below.refl _ _).alloc (Nat.le_refl _) _⟩
 ·have hb1:((s.size:Int)>24):=by omega
  have hno:¬Qe s.data.toList:=fun h=>h24 (by simpa using h.1.2)
  have Hno:=hid hno;clear hno h0 h24;go_enter Tryz.func32,Tryz.ntmps32
  go_wp2
  go_ret;exact⟨false,rfl,by simp;exact Hno.out,Below.refl _ _⟩
