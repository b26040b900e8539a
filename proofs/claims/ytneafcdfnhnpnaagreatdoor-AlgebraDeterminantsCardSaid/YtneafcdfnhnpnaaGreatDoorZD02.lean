/- A law: append to a row of one's own, of the cells of which something is known. -/
import Derived.Test.YtneafcdfnhnpnaaGreatDoorZD01
set_option maxRecDepth 100000
set_option maxHeartbeats 2000000
namespace Go.Proofs.YtneafcdfnhnpnaaGreatDoor
open Go.RowKit
def ks (w:World) (Pc:Value→Prop) (v:Value):Prop:=∀g cur e,v.ownBlock=some g→w.heap[g]? =some (.cells cur e (0,0)) → ∀c∈cur.toList,Pc c
theorem ks.nil (w:World) (Pc:Value→Prop):ks w Pc (.slice none 0 0):=by intro g cur e h;simp[Value.ownBlock] at h
theorem ks.same {w w':World} {Pc:Value→Prop} {v:Value} (h:ks w Pc v) (hk:∀g,v.ownBlock=some g→w'.heap[g]? =w.heap[g]?):ks w' Pc v:=
 fun g cur e hg hc=>h g cur e hg ((hk g hg).symm.trans hc)
theorem Up {P:Program} (w:World) (base:Nat) (t ty e:TypeId) (i:TypeInfo) (z:Value) (size bytes:Nat) (ht:P.underlying t=some (.slice e)) (hi:P.info? e=some i) (hz:i.zero=some z)
  (hsize:i.size=size) (hby:i.bytes=bytes) (hzs:z.cells.size=size) (hsz:0<size)
  (v:Value) (n:Nat) (xs:List Value) (hown:w.ownsRow base e size v n xs)
  (a:Addr) (m c:Nat) (news:List Value) (hl:news.length=m*size) (hnews:∀j u,news[j]? =some u→w.cell? (a.add j)=some u) (h1:∀u∈news,u.oneCell'=true)
  (h63:n+m≤maxLen) (hbytes:(n+m)*bytes≤140737488355328) (hm:0<m)
  (Pc:Value→Prop) (hall:ks w Pc v) (hnw:∀u∈news,Pc u) (hzc:∀u∈z.cells.toList,Pc u) {v':Value} {w':World} (hr:(Builtin.append_ #[t,t] ty #[v,.slice (some a) m c]).run P w = .ok v' w'):ks w' Pc v':=by
 subst hsize;subst hby
 have hsmall:n+m≤9223372036854775807:=by simp only[maxLen] at h63;omega
 have hzz:∀k,∀u∈(Builtin.zeroCells z.cells k).toList,Pc u:=by
  intro k u hu;unfold Builtin.zeroCells at hu;have hmem:u∈(Array.range (k*z.cells.size)).map (fun j=>z.cells[j%z.cells.size]!):=Array.mem_toList_iff.1 hu;obtain⟨j,_,rfl⟩:=Array.mem_map.1 hmem;have hj:j%z.cells.size<z.cells.size:=Nat.mod_lt _ (by omega);rw[getElem!_pos z.cells _ hj];exact hzc _ (Array.mem_toList_iff.2 (Array.getElem_mem hj))
 rcases hown.2 with ⟨rfl,rfl⟩ | ⟨g,cap,cur,rfl,hbg,hg,hnc,hcm,hcs,htake⟩
 ·have hr2:=run_append_nil (P:=P) w t ty e i z ht hi hz a m c news hl hnews (by omega) (by omega) (by have hb:=hbytes;simp only[Nat.zero_add] at hb;omega)
  rw[hr2] at hr
  injection hr with hv hw
  subst hv hw;intro g cur e' hgb hc u hu;simp[Value.ownBlock] at hgb;subst hgb;have:=heap_alloc_new w.drew (.cells (news.toArray++Builtin.zeroCells z.cells (grownCap w m 0 e-m)) e);rw[show w.drew.heap.size=w.heap.size from rfl] at this;rw[this] at hc
  injection hc with hc
  injection hc with hc _ _
  subst hc;rw[Array.toList_append,List.mem_append] at hu;rcases hu with hu | hu
  ·exact hnw u hu
  ·exact hzz _ u hu
 ·by_cases hroom:n+m≤cap
  ·have hfit:n*i.size+news.length≤cur.size:=by rw[hl,hcs,←Nat.add_mul];exact Nat.mul_le_mul_right _ hroom
   have hr2:=run_append_room (P:=P) w t ty e i ht hi g n cap cur hg a m c news hl hnews h1 hroom hfit;rw[hr2] at hr
   injection hr with hv hw
   subst hv hw;intro g' cur' e' hgb hc u hu;simp[Value.ownBlock] at hgb;subst hgb;have:=setRow_heap w g cur (cur.toList.take (n*i.size)++news++cur.toList.drop (n*i.size+news.length)).toArray e (0,0) hg;rw[this] at hc
   injection hc with hc
   injection hc with hc _ _
   subst hc;simp only[List.mem_append] at hu;rcases hu with (hu | hu) | hu
   ·exact hall g cur e rfl hg u (List.mem_of_mem_take hu)
   ·exact hnw u hu
   ·exact hall g cur e rfl hg u (List.mem_of_mem_drop hu)
  ·have holds:∀j u,xs[j]? =some u→w.cell? ((⟨g,0,none⟩:Addr).add j)=some u:=hown.cells (g:=g) rfl
   have hr2:=run_append_grow (P:=P) w t ty e i z ht hi hz ⟨g,0,none⟩ n cap xs hown.1 holds a m c news hl hnews (by omega) (by omega) (growslice_fits (by omega) hbytes);rw[hr2] at hr
   injection hr with hv hw
   subst hv hw;intro g' cur' e' hgb hc u hu;simp[Value.ownBlock] at hgb;subst hgb;have:=heap_alloc_new w.drew (.cells (xs.toArray++news.toArray++Builtin.zeroCells z.cells (grownCap w (n+m) cap e-(n+m))) e);rw[show w.drew.heap.size=w.heap.size from rfl] at this;rw[this] at hc
   injection hc with hc
   injection hc with hc _ _
   subst hc;rw[Array.toList_append,Array.toList_append,List.mem_append,List.mem_append] at hu;rcases hu with (hu | hu) | hu
   ·rw[←htake] at hu
    exact hall g cur e rfl hg u (List.mem_of_mem_take hu)
   ·exact hnw u hu
   ·exact hzz _ u hu
theorem Kt {P:Program} (w:World) {ops:Array Oper} {rest:List Oper} {o:Oper} {a:Act} {Q:Exit→Act→World→Prop} (hgd:o.guard=none) (s x:Operand) (t:TypeId)
  (ho:o.op = .call { callee:= .builtin .append,args:= #[s,x],argTypes:= #[t,t] })
  (base:Nat) (e:TypeId) (i:TypeInfo) (z:Value) (size bytes:Nat) (ht:P.underlying t=some (.slice e)) (hi:P.info? e=some i) (hz:i.zero=some z)
  (hsize:i.size=size) (hby:i.bytes=bytes) (hzs:z.cells.size=size) (hsz:0<size)
  (v:Value) (n:Nat) (xs:List Value) (hs:a.eval s=v) (hown:w.ownsRow base e size v n xs)
  (ad:Addr) (m c:Nat) (news:List Value) (hx:a.eval x = .slice (some ad) m c) (hl:news.length=m*size) (hnews:∀j u,news[j]? =some u→w.cell? (ad.add j)=some u) (h1:∀u∈news,u.oneCell'=true)
  (h63:n+m≤maxLen) (hbytes:(n+m)*bytes≤140737488355328) (hbase:base≤w.heap.size) (hm:0<m)
  (Pc:Value→Prop) (hall:ks w Pc v) (hnw:∀u∈news,Pc u) (hzc:∀u∈z.cells.toList,Pc u)
  (h:∀v' w',w'.ownsRow base e size v' (n+m) (xs++news)→w.grownBy w' v.ownBlock→ks w' Pc v'→wpList P ops Q rest (a.put o.dst v') w'):wpList P ops Q (o::rest) a w:=
 wpList_plain hgd fun K hK=>by
  obtain⟨v',w',hr,h2,h3,_⟩:=run_append_own (P:=P) w base t o.type e i z size bytes ht hi hz hsize hby hzs hsz v n xs hown ad m c news hl hnews h1 h63 hbytes hbase;have h4:=Up w base t o.type e i z size bytes ht hi hz hsize hby hzs hsz v n xs hown ad m c news hl hnews h1 h63 hbytes hm Pc hall hnw hzc hr;unfold Oper.wp execOp;simp only[ho,resolve,invoke,builtin,Sem.run_bind,Sem.run_pure,Result.andThen_ok,List.map_toArray,List.map_cons,List.map_nil,hs,hx,hr];exact hK _ _ (h v' w' h2 h3 h4)
end Go.Proofs.YtneafcdfnhnpnaaGreatDoor
namespace Go.Proofs.YtneafcdfnhnpnaaGreatDoor
def qQ (s:Bool):Int:=if s then -1 else 1
structure Lh (a b h0 h1:Nat) (s:Bool) (hk hn up vp uk vk un vn:Nat) (x y z:Int):Prop where
 ey:y=qQ s*((uk:Int)*(a:Int)-(vk:Int)*(b:Int))
 ez:z = -(qQ s*((un:Int)*(a:Int)-(vn:Int)*(b:Int)))
 ek:(hk:Int)=qQ s*((uk:Int)*(h0:Int)-(vk:Int)*(h1:Int))
 en:(hn:Int) = -(qQ s*((un:Int)*(h0:Int)-(vn:Int)*(h1:Int)))
 det:vn*hk+vk*hn=h0
 le1:un≤vn
 le2:uk+un≤vk+vn
 vpos:1≤vn
 hle:hn≤hk
 gcd:Int.gcd y z=Nat.gcd a b
 ex:vp≠0→x = -(qQ s*((up:Int)*(a:Int)-(vp:Int)*(b:Int)))∧0≤y∧y<x∧x≤(b:Int)∧Int.gcd x y=Nat.gcd a b
 ub:vk≠0→y≤(b:Int)
 one:vk=0→un=0∧vn=1∧s=false
theorem Lh.start {a b h0 h1:Nat} (h:h1≤h0):Lh a b h0 h1 false h0 h1 0 0 1 0 0 1 0 a b:=by
 refine⟨by simp[qQ],by simp[qQ],by simp[qQ],by simp[qQ],by simp,by omega,by omega,by omega,h,rfl,fun h=>absurd rfl h,fun h=>absurd rfl h,fun _=>⟨rfl,rfl,rfl⟩⟩
theorem NJ (x y q:Int):Int.gcd y (x-q*y)=Int.gcd x y:=by
 rw[Int.gcd_comm x y];rw[show x-q*y=x+y*(-q) by rw[Int.mul_neg,Int.mul_comm y q];omega];exact Int.gcd_add_mul_left_right ..
section
variable {a b h0 h1 ra rb P:Nat} {s:Bool} {hk hn up vp uk vk un vn q:Nat} {x y z:Int}
theorem Lh.sure (h:Lh a b h0 h1 s hk hn up vp uk vk un vn x y z) (ea:a=h0*P+ra) (eb:b=h1*P+rb) (hra:ra<P) (hrb:rb<P) (t1:vn≤hn) (t2:vk+vn≤hk-hn):0≤z∧z<y:=by
 have hP:(0:Int)<P:=by omega
 have hle:=h.hle;have hv:=h.vpos;have ez:=h.ez;have ey:=h.ey;have en:=h.en;have ek:=h.ek;have l1:=h.le1;have l2:=h.le2
 -- the numbers by their highest words
 have e1:z=(hn:Int)*P-qQ s*((un:Int)*ra-(vn:Int)*rb):=by
  rw[ez,en,ea,eb];push_cast;grind
 have e2:y-z=((hk:Int)-hn)*P+qQ s*(((uk:Int)+un)*ra-((vk:Int)+vn)*rb):=by
  rw[ez,ey,en,ek,ea,eb];push_cast;grind
 have a1:(un:Int)*ra≤(un:Int)*P:=Int.mul_le_mul_of_nonneg_left (by omega) (by omega);have a2:(vn:Int)*rb≤(vn:Int)*P:=Int.mul_le_mul_of_nonneg_left (by omega) (by omega);have a3:(un:Int)*P≤(vn:Int)*P:=Int.mul_le_mul_of_nonneg_right (by omega) (by omega);have a4:(vn:Int)*P≤(hn:Int)*P:=Int.mul_le_mul_of_nonneg_right (by omega) (by omega);have n1:0≤(un:Int)*ra:=Int.mul_nonneg (by omega) (by omega);have n2:0≤(vn:Int)*rb:=Int.mul_nonneg (by omega) (by omega);have b1:((uk:Int)+un)*ra≤((uk:Int)+un)*(P-1):=Int.mul_le_mul_of_nonneg_left (by omega) (by omega);have b2:((vk:Int)+vn)*rb≤((vk:Int)+vn)*(P-1):=Int.mul_le_mul_of_nonneg_left (by omega) (by omega);have b3:((uk:Int)+un)*(P-1)≤((vk:Int)+vn)*(P-1):=Int.mul_le_mul_of_nonneg_right (by omega) (by omega);have b4:((vk:Int)+vn)*P≤((hk:Int)-hn)*P:=Int.mul_le_mul_of_nonneg_right (by omega) (by omega);have n3:0≤((uk:Int)+un)*ra:=Int.mul_nonneg (by omega) (by omega);have n4:0≤((vk:Int)+vn)*rb:=Int.mul_nonneg (by omega) (by omega)
 have b5:((vk:Int)+vn)*(P-1)=((vk:Int)+vn)*P-((vk:Int)+vn):=by rw[Int.mul_sub,Int.mul_one]
 generalize (un:Int)*ra=m1 at *;generalize (vn:Int)*rb=m2 at *;generalize ((uk:Int)+un)*ra=m3 at *;generalize ((vk:Int)+vn)*rb=m4 at *;generalize ((uk:Int)+un)*(P-1)=m5 at *;generalize ((vk:Int)+vn)*(P-1)=m6 at *;generalize ((vk:Int)+vn)*P=m7 at *;generalize ((hk:Int)-hn)*P=m8 at *;generalize (hn:Int)*P=m9 at *;generalize (un:Int)*P=m10 at *;generalize (vn:Int)*P=m11 at *
 cases s with
 | true=>
  have g1:qQ true = -1:=rfl;rw[g1] at e1 e2;constructor <;> omega
 | false=>
  have g1:qQ false=1:=rfl;rw[g1] at e1 e2;constructor <;> omega
theorem KK (s:Bool):qQ (!s) = -qQ s:=by cases s <;> rfl
theorem Lh.step (h:Lh a b h0 h1 s hk hn up vp uk vk un vn x y z) (hz:0≤z∧z<y) (hq:q=hk/hn) (hn0:1≤hn):
  Lh a b h0 h1 (!s) hn (hk%hn) uk vk un vn (uk+q*un) (vk+q*vn) y z (y-q*z):=by
 have hdm:=Nat.div_add_mod hk hn;have hml:=Nat.mod_lt hk (show 0<hn by omega);rw[←hq] at hdm
 have hq1:1≤q:=by
  rw[hq];exact(Nat.le_div_iff_mul_le (by omega)).2 (by rw[Nat.one_mul];exact h.hle)
 have hr:((hk%hn:Nat):Int)=(hk:Int)-(q:Int)*hn:=by
  have:((hn*q+hk%hn:Nat):Int)=(hk:Int):=by rw[hdm]
  push_cast at this
  rw[Int.mul_comm (q:Int)];omega
 have k1:un≤q*un:=Nat.le_mul_of_pos_left _ (by omega);have k2:vn≤q*vn:=Nat.le_mul_of_pos_left _ (by omega);have l1:=h.le1;have l2:=h.le2
 obtain⟨p,rfl⟩:∃p,q=p+1:=⟨q-1,by omega⟩
 have k3:p*un≤p*vn:=Nat.mul_le_mul_left _ l1
 have hs:(p+1)*un=p*un+un:=by rw[Nat.add_mul,Nat.one_mul]
 have hs2:(p+1)*vn=p*vn+vn:=by rw[Nat.add_mul,Nat.one_mul]
 have hzb:z≤b:=by
  rcases Nat.eq_zero_or_pos vk with h0 | h0
  ·obtain⟨o1,o2,o3⟩:=h.one h0
   have:=h.ez;rw[o1,o2,o3] at this;simp[qQ] at this;omega
  ·have:=h.ub (by omega);omega
 refine⟨?_,?_,?_,?_,?_,by omega,by omega,by have:=h.vpos;omega,by omega,?_,fun hv=>⟨?_,hz.1,hz.2,h.ub hv,h.gcd⟩,fun _=>hzb,fun hv=> ?_⟩
 ·rw[KK,h.ez];grind
 ·rw[KK,h.ez,h.ey];push_cast;grind
 ·rw[KK,h.en];grind
 ·rw[hr,KK,h.en,h.ek];push_cast;grind
 ·have hd:=h.det
  have:(vk+(p+1)*vn)*hn+vn*(hk%hn)=vk*hn+vn*(hn*(p+1)+hk%hn):=by
   rw[Nat.add_mul,Nat.mul_add vn]
   have:(p+1)*vn*hn=vn*(hn*(p+1)):=by ac_rfl
   omega
  rw[this,hdm];omega
 ·rw[NJ];exact h.gcd
 ·rw[KK,h.ey];grind
 ·have:=h.vpos;omega
theorem Lh.small (h:Lh a b h0 h1 s hk hn up vp uk vk un vn x y z) (hn0:1≤hn):vk+vn≤h0∧vk+hk/hn*vn≤h0:=by
 have hd:=h.det;have hle:=h.hle;have hdm:=Nat.div_add_mod hk hn;have c1:vn≤vn*hk:=Nat.le_mul_of_pos_right _ (by omega);have c2:vk≤vk*hn:=Nat.le_mul_of_pos_right _ (by omega);refine⟨by omega,?_⟩
 have c3:hk/hn*vn≤vn*hk:=by
  rw[Nat.mul_comm];exact Nat.mul_le_mul_left _ (Nat.div_le_self _ _)
 omega
end
end Go.Proofs.YtneafcdfnhnpnaaGreatDoor
namespace Go.Proofs.YtneafcdfnhnpnaaGreatDoor
open Go.RowKit
theorem Ky (x y c:Int) (hx:0≤x) (hx2:x<18446744073709551616) (hy:0≤y) (hy2:y<18446744073709551616) (hc0:0≤c) (hc:c≤1) (w:World):
  (callFunc 194 #[.int .u64 x,.int .u64 y,.int .u64 c]).run Tryz.prog w =
  .ok (.value (.tuple #[.int .u64 ((x+y+c)%18446744073709551616),.int .u64 ((x+y+c)/18446744073709551616)])) w:=by
 obtain⟨x,rfl⟩:=Int.eq_ofNat_of_zero_le hx;obtain⟨y,rfl⟩:=Int.eq_ofNat_of_zero_le hy;obtain⟨c,rfl⟩:=Int.eq_ofNat_of_zero_le hc0;rw[run_callFunc_extern Tryz.func194 (by kernel_rfl) (by kernel_rfl) (by kernel_rfl) (e:=add64Entry) (by kernel_rfl),run_add64 x y c (by omega) (by omega) (by omega) (by omega)];rfl
theorem Kz (x y:Int) (hx:0≤x) (hx2:x<18446744073709551616) (hy:0≤y) (hy2:y<18446744073709551616) (w:World):
  (callFunc 194 #[.int .u64 x,.int .u64 y,.int .u64 0]).run Tryz.prog w =
  .ok (.value (.tuple #[.int .u64 ((x+y)%18446744073709551616),.int .u64 ((x+y)/18446744073709551616)])) w:=by
 simpa using Ky x y 0 hx hx2 hy hy2 (Int.le_refl 0) (by decide) w
def yZ (x y:Int):Int:=if x<y then 1 else 0
theorem XF (x y b:Int) (hx:0≤x) (hx2:x<18446744073709551616) (hy:0≤y) (hy2:y<18446744073709551616) (hb0:0≤b) (hb:b≤1) (w:World):
  (callFunc 249 #[.int .u64 x,.int .u64 y,.int .u64 b]).run Tryz.prog w =
  .ok (.value (.tuple #[.int .u64 ((x-y-b)%18446744073709551616),.int .u64 (yZ x (y+b))])) w:=by
 obtain⟨x,rfl⟩:=Int.eq_ofNat_of_zero_le hx;obtain⟨y,rfl⟩:=Int.eq_ofNat_of_zero_le hy;obtain⟨b,rfl⟩:=Int.eq_ofNat_of_zero_le hb0
 have e1:(((x+18446744073709551616-y-b)%18446744073709551616:Nat):Int)=((x:Int)-y-b)%18446744073709551616:=by omega
 have e2:((if x<y+b then 1 else 0:Nat):Int)=yZ x (y+b):=by unfold yZ;split <;> split <;> omega
 rw[←e1,←e2];rw[run_callFunc_extern Tryz.func249 (by kernel_rfl) (by kernel_rfl) (by kernel_rfl) (e:=sub64Entry) (by kernel_rfl),run_sub64 x y b (by omega)];rfl
theorem GX (x y:Int) (hx:0≤x) (hx2:x<18446744073709551616) (hy:0≤y) (hy2:y<18446744073709551616) (w:World):
  (callFunc 249 #[.int .u64 x,.int .u64 y,.int .u64 0]).run Tryz.prog w =
  .ok (.value (.tuple #[.int .u64 ((x-y)%18446744073709551616),.int .u64 (yZ x y)])) w:=by
 simpa using XF x y 0 hx hx2 hy hy2 (Int.le_refl 0) (by decide) w
theorem GY (x b:Int) (hx:0≤x) (hx2:x<18446744073709551616) (hb0:0≤b) (hb:b≤1) (w:World):
  (callFunc 249 #[.int .u64 x,.int .u64 0,.int .u64 b]).run Tryz.prog w =
  .ok (.value (.tuple #[.int .u64 ((x-b)%18446744073709551616),.int .u64 (yZ x b)])) w:=by
 simpa using XF x 0 b hx hx2 (by omega) (by omega) hb0 hb w
theorem Um (x c:Int) (hx:0≤x) (hx2:x<18446744073709551616) (hc0:0≤c) (hc:c≤1) (w:World):
  (callFunc 194 #[.int .u64 x,.int .u64 0,.int .u64 c]).run Tryz.prog w =
  .ok (.value (.tuple #[.int .u64 ((x+c)%18446744073709551616),.int .u64 ((x+c)/18446744073709551616)])) w:=by
 simpa using Ky x 0 c hx hx2 (by omega) (by omega) hc0 hc w
end Go.Proofs.YtneafcdfnhnpnaaGreatDoor
namespace Go.Proofs.YtneafcdfnhnpnaaGreatDoor
theorem qh (ws:List Nat) (k:Nat):jc (ws.take (k+1))=jc (ws.take k)+WB^k*ws[k]?.getD 0:=by
 rcases Nat.lt_or_ge k ws.length with h | h
 ·rw[yN ws k h,Jf,List.length_take,Nat.min_eq_left (by omega)]
 ·rw[List.take_of_length_le (by omega),List.take_of_length_le h,List.getElem?_eq_none h];simp
theorem JH (L:List Nat) (k x j:Nat) (h:j≤k):(L.set k x).take j=L.take j:=by
 rw[List.take_set_of_le h]
theorem Jt (L:List Nat) (k x:Nat) (h:k<L.length):(L.set k x)[k]?.getD 0=x:=by simp[h]
theorem JM (L:List Nat) (k x:Nat) (h:k<L.length):jc ((L.set k x).take (k+1))=jc (L.take k)+WB^k*x:=by
 rw[qh,JH _ _ _ _ (Nat.le_refl _),Jt L k x h]
theorem yO {L:List Nat} (h:jJ L) (k x:Nat) (hx:x<WB):jJ (L.set k x):=by
 intro y hy;rcases List.mem_or_eq_of_mem_set hy with h1 | h1
 ·exact h y h1
 ·omega
theorem Ks (n:Nat):jJ (List.replicate n 0):=by
 intro x hx;rw[List.eq_of_mem_replicate hx];decide
def qX (xs bs L:List Nat) (k br:Nat):Prop:=L.length=xs.length∧jJ L∧br≤1∧jc (xs.take k)+WB^k*br=jc (L.take k)+jc (bs.take k)
theorem qX.start (xs bs:List Nat):qX xs bs (List.replicate xs.length 0) 0 0:=⟨by simp,Ks _,by omega,by simp[jc]⟩
theorem qX.step {xs bs L:List Nat} {k br d br':Nat} (h:qX xs bs L k br) (hk:k<xs.length) (hd:d<WB) (hb:br'≤1)
  (he:xs[k]?.getD 0+WB*br'=d+bs[k]?.getD 0+br):qX xs bs (L.set k d) (k+1) br':=by
 obtain⟨h1,h2,h3,h4⟩:=h;refine⟨by simp[h1],yO h2 k d hd,hb,?_⟩;rw[qh xs,qh bs,JM L k d (by omega),Nat.pow_succ]
 have e:WB^k*(xs[k]?.getD 0+WB*br')=WB^k*(d+bs[k]?.getD 0+br):=by rw[he]
 simp only[Nat.mul_add,Nat.mul_assoc] at e ⊢;omega
theorem qX.last {xs bs L:List Nat} {br:Nat} (h:qX xs bs L xs.length br) (hl:bs.length≤xs.length) (hle:jc bs≤jc xs):jc L=jc xs-jc bs:=by
 obtain⟨h1,h2,h3,h4⟩:=h;rw[List.take_of_length_le (Nat.le_refl _),List.take_of_length_le (by omega),List.take_of_length_le hl] at h4;have h5:=qT h2;rw[h1] at h5
 have:br=0:=by
  rcases Nat.lt_or_ge br 1 with hb | hb
  ·omega
  ·have hb1:br=1:=by omega
   subst hb1;omega
 subst this;omega
def qU (xs bs L:List Nat) (k c:Nat):Prop:=L.length=xs.length+1∧jJ L∧c≤1∧jc (xs.take k)+jc (bs.take k)=jc (L.take k)+WB^k*c
theorem qU.start (xs bs:List Nat):qU xs bs (List.replicate (xs.length+1) 0) 0 0:=⟨by simp,Ks _,by omega,by simp[jc]⟩
theorem qU.step {xs bs L:List Nat} {k c d c':Nat} (h:qU xs bs L k c) (hk:k<xs.length) (hd:d<WB) (hb:c'≤1)
  (he:xs[k]?.getD 0+bs[k]?.getD 0+c=d+WB*c'):qU xs bs (L.set k d) (k+1) c':=by
 obtain⟨h1,h2,h3,h4⟩:=h;refine⟨by simp[h1],yO h2 k d hd,hb,?_⟩;rw[qh xs,qh bs,JM L k d (by omega),Nat.pow_succ]
 have e:WB^k*(xs[k]?.getD 0+bs[k]?.getD 0+c)=WB^k*(d+WB*c'):=by rw[he]
 simp only[Nat.mul_add,Nat.mul_assoc] at e ⊢;omega
theorem qU.last {xs bs L:List Nat} {c:Nat} (h:qU xs bs L xs.length c) (hl:bs.length≤xs.length):
  jc (L.set xs.length c)=jc xs+jc bs∧jJ (L.set xs.length c)∧(L.set xs.length c).length=xs.length+1:=by
 obtain⟨h1,h2,h3,h4⟩:=h;rw[List.take_of_length_le (Nat.le_refl _),List.take_of_length_le hl] at h4
 refine⟨?_,yO h2 _ _ (by have:(2:Nat)≤WB:=by decide
                         omega),by simp[h1]⟩
 have:=JM L xs.length c (by omega);rw[List.take_of_length_le (by simp[h1])] at this;omega
def xS (xs L:List Nat) (f a k:Nat):Prop:=L.length=xs.length+1∧jJ L∧jc (L.take (k+1))=jc (xs.take k)*f+a
theorem xS.start (xs:List Nat) (f a:Nat) (ha:a<WB):xS xs ((List.replicate (xs.length+1) 0).set 0 a) f a 0:=by
 refine⟨by simp,yO (Ks _) _ _ ha,?_⟩;rw[JM _ _ _ (by simp)];simp[jc]
theorem xS.step {xs L:List Nat} {f a k d c hi lo:Nat} (h:xS xs L f a k) (hk:k<xs.length) (hd:d<WB) (hc:hi+c<WB)
  (hp:xs[k]?.getD 0*f=hi*WB+lo) (he:L[k]?.getD 0+lo=d+WB*c):xS xs ((L.set k d).set (k+1) (hi+c)) f a (k+1):=by
 obtain⟨h1,h2,h3⟩:=h;refine⟨by simp[h1],yO (yO h2 k d hd) _ _ hc,?_⟩;rw[JM _ _ _ (by simp;omega),JM L k d (by omega),qh xs,Nat.pow_succ];rw[qh] at h3
 have e:WB^k*(L[k]?.getD 0+lo)=WB^k*(d+WB*c):=by rw[he]
 have e2:WB^k*(xs[k]?.getD 0*f)=WB^k*(hi*WB+lo):=by rw[hp]
 simp only[Nat.mul_add,Nat.add_mul,Nat.mul_assoc] at e e2 h3 ⊢;rw[Nat.mul_comm hi WB] at e2;omega
theorem xS.last {xs L:List Nat} {f a:Nat} (h:xS xs L f a xs.length):jc L=jc xs*f+a:=by
 obtain⟨h1,h2,h3⟩:=h;rw[List.take_of_length_le (by omega),List.take_of_length_le (Nat.le_refl _)] at h3;exact h3
theorem V7 (x f:Nat) (hx:x<WB) (hf:f<WB):x*f/WB<WB∧x*f/WB*WB+x*f%WB=x*f∧x*f%WB<WB∧(∀r<WB,x*f/WB+(r+x*f%WB)/WB<WB):=by
 have h1:x*f≤(WB-1)*(WB-1):=Nat.mul_le_mul (by omega) (by omega);refine⟨?_,?_,Nat.mod_lt _ (by decide),fun r hr=> ?_⟩
 ·rw[Nat.div_lt_iff_lt_mul (by decide)];unfold WB at *;omega
 ·rw[Nat.mul_comm];exact Nat.div_add_mod _ _
 ·have h2:=Nat.div_add_mod (x*f) WB
  unfold WB at *;omega
def yq (xs L:List Nat) (b k r:Nat):Prop:=L.length=xs.length∧jJ L∧r<b∧jc (xs.drop k)=jc (L.drop k)*b+r
theorem yq.start (xs:List Nat) (b:Nat) (hb:0<b):yq xs (List.replicate xs.length 0) b xs.length 0:=
 ⟨by simp,Ks _,hb,by simp[jc]⟩
theorem Jr (L:List Nat) (k:Nat) (h:k<L.length):L.drop k=L[k]?.getD 0::L.drop (k+1):=by
 rw[List.drop_eq_getElem_cons h,List.getElem?_eq_getElem h];rfl
theorem yq.step {xs L:List Nat} {b k r:Nat} (h:yq xs L b (k+1) r) (hk:k<xs.length) (hb:0<b) (hq:(r*WB+xs[k]?.getD 0)/b<WB):
  yq xs (L.set k ((r*WB+xs[k]?.getD 0)/b)) b k ((r*WB+xs[k]?.getD 0)%b):=by
 obtain⟨h1,h2,h3,h4⟩:=h;refine⟨by simp[h1],yO h2 _ _ hq,Nat.mod_lt _ hb,?_⟩;rw[Jr xs k hk,Jr (L.set k _) k (by simp;omega),Jt _ _ _ (by omega),List.drop_set_of_lt (by omega)];simp only[jc,h4];have:=Nat.div_add_mod (r*WB+xs[k]?.getD 0) b;generalize (r*WB+xs[k]?.getD 0)/b=q at *;generalize (r*WB+xs[k]?.getD 0)%b=r' at *
 have e:WB*(jc (L.drop (k+1))*b+r)=WB*jc (L.drop (k+1))*b+r*WB:=by rw[Nat.mul_add,Nat.mul_assoc,Nat.mul_comm WB r]
 rw[e,Nat.add_mul,Nat.mul_comm q b];omega
theorem UY {b r x:Nat} (hr:r<b) (hx:x<WB):(r*WB+x)/b<WB:=by
 rw[Nat.div_lt_iff_lt_mul (by omega),Nat.mul_comm WB b];have:(r+1)*WB≤b*WB:=Nat.mul_le_mul_right _ hr;rw[Nat.add_mul] at this;omega
theorem yq.last {xs L:List Nat} {b r:Nat} (h:yq xs L b 0 r):jc L=jc xs/b∧r=jc xs%b:=by
 obtain⟨h1,h2,h3,h4⟩:=h;simp only[List.drop_zero] at h4;rw[h4];refine⟨?_,?_⟩
 ·rw[Nat.mul_comm,Nat.mul_add_div (by omega),Nat.div_eq_of_lt h3];omega
 ·rw[Nat.mul_comm,Nat.mul_add_mod,Nat.mod_eq_of_lt h3]
theorem Mz (L:List Nat) (j d:Nat) (h:j<L.length):jc (L.set j d)+WB^j*L[j]?.getD 0=jc L+WB^j*d:=by
 rw[XS L j h,XS (L.set j d) j (by simpa using h),JH _ _ _ _ (Nat.le_refl _),Jt L j d h,List.drop_set_of_lt (by omega)];simp only[Nat.mul_add];omega
def zj (bs L0 L:List Nat) (f off k c:Nat):Prop:=L.length=L0.length∧jJ L∧L.drop (off+bs.length)=L0.drop (off+bs.length)∧c<WB ∧
 jc L+WB^(off+k)*c=jc L0+WB^off*(jc (bs.take k)*f)
theorem zj.start {bs L0:List Nat} (f off:Nat) (h:jJ L0):zj bs L0 L0 f off 0 0:=⟨rfl,h,rfl,by decide,by simp[jc]⟩
theorem zj.step {bs L0 L:List Nat} {f off k c d c':Nat} (h:zj bs L0 L f off k c) (hk:k<bs.length) (hlen:off+bs.length≤L0.length) (hd:d<WB) (hc:c'<WB)
  (he:d+WB*c'=L[off+k]?.getD 0+c+bs[k]?.getD 0*f):zj bs L0 (L.set (off+k) d) f off (k+1) c':=by
 obtain⟨h1,h2,h3,h4,h5⟩:=h;refine⟨by simp[h1],yO h2 _ _ hd,by rw[List.drop_set_of_lt (by omega)];exact h3,hc,?_⟩;have hs:=Mz L (off+k) d (by omega);rw[qh bs,show off+(k+1)=(off+k)+1 from by omega,Nat.pow_succ]
 have e:WB^(off+k)*(d+WB*c')=WB^(off+k)*(L[off+k]?.getD 0+c+bs[k]?.getD 0*f):=by rw[he]
 have e2:WB^off*(WB^k*bs[k]?.getD 0*f)=WB^(off+k)*(bs[k]?.getD 0*f):=by rw[Nat.pow_add,Nat.mul_assoc,Nat.mul_assoc]
 simp only[Nat.mul_add,Nat.add_mul,e2] at e hs h5 ⊢;rw[Nat.mul_assoc (WB^(off+k)) WB c'];omega
theorem ER (x f c z:Nat) (hx:x<WB) (hf:f<WB) (hc:c<WB) (hz:z<WB):
  ∃hi lo l1 o1 d o2:Nat,x*f=hi*WB+lo∧lo<WB∧lo+c=l1+WB*o1∧l1<WB∧o1≤1∧hi+o1<WB∧z+l1=d+WB*o2∧d<WB∧o2≤1∧hi+o1+o2<WB∧d+WB*(hi+o1+o2)=z+c+x*f:=by
 have h1:x*f≤(WB-1)*(WB-1):=Nat.mul_le_mul (by omega) (by omega);have h2:=Nat.div_add_mod (x*f) WB;have h3:=Nat.mod_lt (x*f) (show 0<WB by decide);generalize x*f/WB=hi at *;generalize x*f%WB=lo at *;generalize x*f=p at *;unfold WB at *;refine⟨hi,lo,(lo+c)%18446744073709551616,(lo+c)/18446744073709551616,(z+(lo+c)%18446744073709551616)%18446744073709551616,(z+(lo+c)%18446744073709551616)/18446744073709551616,?_,?_,?_,?_,?_,?_,?_,?_,?_,?_,?_⟩ <;> omega
def yX (xs bs L:List Nat) (k:Nat):Prop:=L.length=xs.length+bs.length∧jJ L∧jc L=jc (xs.take k)*jc bs∧L.drop (k+bs.length)=List.replicate (xs.length-k) 0
theorem yX.start (xs bs:List Nat):yX xs bs (List.replicate (xs.length+bs.length) 0) 0:=by
 refine⟨by simp,Ks _,?_,by simp⟩;simp only[List.take_zero,jc,Nat.zero_mul]
 induction (xs.length+bs.length) with
 | zero=>rfl
 | succ n ih=>simp[List.replicate_succ,jc,ih]
theorem yX.step {xs bs L L':List Nat} {k c:Nat} (h:yX xs bs L k) (hk:k<xs.length) (ha:zj bs L L' (xs[k]?.getD 0) k bs.length c):
  yX xs bs (L'.set (k+bs.length) c) (k+1):=by
 obtain⟨h1,h2,h3,h4⟩:=h;obtain⟨a1,a2,a3,a4,a5⟩:=ha;have hs:=Mz L' (k+bs.length) c (by omega)
 have hz:L'[k+bs.length]?.getD 0=0:=by
  have:L'.drop (k+bs.length)=List.replicate (xs.length-k) 0:=by rw[a3,h4]
  have e:(L'.drop (k+bs.length))[0]?.getD 0=L'[k+bs.length]?.getD 0:=by simp
  rw[←e,this];rw[List.getElem?_replicate];split <;> rfl
 rw[hz] at hs;refine⟨by simp;omega,yO a2 _ _ a4,?_,?_⟩
 ·rw[qh xs]
  rw[List.take_of_length_le (Nat.le_refl _),h3] at a5;simp only[Nat.add_mul];rw[Nat.mul_assoc,Nat.mul_comm (xs[k]?.getD 0) (jc bs)];omega
 ·rw[show k+1+bs.length=k+bs.length+1 from by omega,List.drop_set_of_lt (by omega),←List.drop_drop,a3,h4,List.drop_replicate]
  congr 1
theorem yX.last {xs bs L:List Nat} (h:yX xs bs L xs.length):jc L=jc xs*jc bs:=by
 obtain⟨h1,h2,h3,h4⟩:=h;rw[h3,List.take_of_length_le (Nat.le_refl _)]
section
variable {T:Type} {F:Fd T}
theorem Xx {R:List (jV T)} {row q:Nat} (hr:row<R.length) (hq:q<R.length) (i:Nat):jG (j9 R row q) i=jG R (sw q row i):=by
 rw[Ko (List.getElem?_eq_getElem hr) (List.getElem?_eq_getElem hq)];unfold jG sw;by_cases h1:i=q
 ·subst h1
  rw[if_pos rfl,List.getElem?_set_self (by simpa using hq),List.getElem?_eq_getElem hr]
 ·rw[if_neg h1,List.getElem?_set_ne (fun e=>h1 e.symm)]
  by_cases h2:i=row
  ·subst h2
   rw[if_pos rfl,List.getElem?_set_self hr,List.getElem?_eq_getElem hq]
  ·rw[if_neg h2,List.getElem?_set_ne (fun e=>h2 e.symm)]
theorem Gu {S:jz T} {row:Nat} (hr:row<S.rows.length) (hq:S.cols.length<S.rows.length) (i:Nat):jG (jX row S) i=jG S.rows (sw S.cols.length row i):=by
 unfold jX;split
 ·rename_i h
  rw[←h];unfold sw;split
  ·rename_i h1;rw[h1]
  ·rfl
 ·exact Xx hr hq i
theorem YG {S:jz T} {row:Nat} :(jX row S).length=S.rows.length:=by
 unfold jX;split
 ·rfl
 ·exact Kk _ _ _
theorem Gv {R:List (jV T)} {q:Nat} (hq:q<R.length) (L:List T) (i:Nat):jG (setRow R q L) i=if i=q then L else jG R i:=by
 by_cases h:i=q
 ·subst h
  rw[if_pos rfl,kW (qA (List.getElem?_eq_getElem hq) L)]
 ·rw[if_neg h]
  unfold jG;rw[xA (fun e=>h e.symm)]
theorem Gs {R:List (jV T)} {top o k:Nat} {P:List T} (i:Nat) (hi:i<R.length):jG (ke F top o P R k) i=if i<k∧i≠top then kX F o (jG R i) P else jG R i:=by
 unfold jG ke;rw[List.getElem?_mapIdx,List.getElem?_eq_getElem hi];simp only[Option.map_some,Option.getD_some]
 split <;> rfl
end
end Go.Proofs.YtneafcdfnhnpnaaGreatDoor
namespace Go.Proofs.YtneafcdfnhnpnaaGreatDoor
open Go.RowKit Go.Lib
def xf (r:Int):Bool:=decide (48≤r∧r≤57)
theorem Ju (r:Int) (w:World):Calls Tryz.prog 123 #[.int .i32 r] w fun e w'=>e = .returned (.bool (xf r))∧w=w':=by
 by_cases h1:48≤r
 ·by_cases h2:r≤57
  ·have hd:xf r=true:=by simp[xf];omega
   have Hd:=hid hd;clear hd;go_enter Tryz.func123,Tryz.ntmps123
   go_wp2
   go_ret;exact⟨by rw[Hd.out];rfl,rfl⟩
  ·have hd:xf r=false:=by simp[xf];omega
   have Hd:=hid hd;clear hd
   have hd2:decide (r≤57)=false:=by simpa using h2
   go_enter Tryz.func123,Tryz.ntmps123
   go_wp2
   go_ret;exact⟨by rw[Hd.out];rfl,rfl⟩
 ·have hd:xf r=false:=by simp[xf];omega
  have Hd:=hid hd;clear hd
  have hd2:decide (48≤r)=false:=by simpa using h1
  go_enter Tryz.func123,Tryz.ntmps123
  go_wp2
  go_ret;exact⟨by rw[Hd.out];rfl,rfl⟩
def jD (l:List UInt8):Prop:=j3 l∧(l=[48]∨(l≠[]∧l.head? ≠some 48))
def Aw (s:ByteArray) (w:World) (e:Ending) (w':World):Prop:=∃b:Bool,e = .returned (.bool b)∧(b=true↔jD s.data.toList)∧Below w.heap.size w w'
theorem xr (s:ByteArray) (k:Nat) (h:k<s.size):s.data.toList[k]? =some (s[k]):=by
 have:k<s.data.toList.length:=by simpa using h
 rw[List.getElem?_eq_getElem this];simp;rfl
theorem VE (s:ByteArray) (w:World) (hs:s.size≤9223372036854775807):
  Calls Tryz.prog 170 #[.string s] w (Aw s w):=by
 go_enter Tryz.func170,Tryz.ntmps170
 go_wp2
 go_loopw [4,7] (fun _ _ wr=>∃pos:Nat,wr=w.iter s pos∧pos≤s.size∧Hid (j3 (s.data.toList.take pos))) (fun _ _ wr=>s.size-wr.iterPos w.heap.size)
 case atStart=>exact⟨0,rfl,by omega,hid (fun c hc=>by simp at hc)⟩
 case round=>
  obtain⟨pos,rfl,hp,hd⟩:=hrel;by_cases hlt:pos<s.size
  ·by_cases hasc:(s[pos]).toNat<128
   ·have hnx:=fun ty=>run_next_ascii (P:=Tryz.prog) w s pos ty hlt hasc
    by_cases hdg:xf ((s[pos]).toNat:Int)=true
    ·go_wp2_with (go_at_call 123;refine(Ju _ _).mono ?_;rintro e w' ⟨rfl,rfl⟩;rw[hdg])
     refine⟨⟨pos+1,rfl,by omega,hid ?_⟩,by rw[World.iterPos_iter,World.iterPos_iter];omega⟩;intro c hc;rw[List.take_add_one,xr s pos hlt] at hc;rcases List.mem_append.1 hc with h1 | h1
     ·exact hd.out c h1
     ·have hcc:c=s[pos]:=by simpa using h1
      subst hcc;have:=of_decide_eq_true hdg;omega
    ·have hdg':xf ((s[pos]).toNat:Int)=false:=by simpa using hdg
     have hno:¬jD s.data.toList:=by
      intro hn;have:=hn.1 (s[pos]) (List.mem_of_getElem? (xr s pos hlt));have h2:=of_decide_eq_false hdg';omega
     have Hno:=hid hno;clear hno hdg
     go_wp2_with (go_at_call 123;refine(Ju _ _).mono ?_;rintro e w' ⟨rfl,rfl⟩;rw[hdg'])
     go_ret;exact⟨false,rfl,by simp;exact Hno.out,(Below.refl _ _).alloc (Nat.le_refl _) _⟩
   ·have hnx:=fun ty=>run_next_any (P:=Tryz.prog) w s pos ty hlt
    obtain⟨hr1,hr2⟩:=decode_high s pos hlt (by omega)
    have hdg':xf ((Utf8.decode s pos).1:Int)=false:=by unfold xf;simp;omega
    have hno:¬jD s.data.toList:=by
     intro hn;have:=hn.1 (s[pos]) (List.mem_of_getElem? (xr s pos hlt));omega
    have Hno:=hid hno;clear hno hasc;generalize Utf8.decode s pos=dd at *
    go_wp2_with (go_at_call 123;refine(Ju _ _).mono ?_;rintro e w' ⟨rfl,rfl⟩;rw[hdg'])
    go_ret;exact⟨false,rfl,by simp;exact Hno.out,(Below.refl _ _).alloc (Nat.le_refl _) _⟩
  ·have hnx:=fun ty=>run_next_end (P:=Tryz.prog) w s pos ty hlt
   have hall:j3 s.data.toList:=by
    have:=hd.out
    rwa [List.take_of_length_le (by simp;omega)] at this
   have Hall:=hid hall;clear hall hd;have htl:s.toList=s.data.toList:=ByteArray.toList_eq s;have Htl:=hid htl;clear htl;by_cases h1:s.toList=[48]
   ·have hnum:jD s.data.toList:=⟨Hall.out,.inl (by rw[←Htl.out];exact h1)⟩
    have Hnum:=hid hnum;clear hnum
    go_wp2
    go_ret;exact⟨true,rfl,by simp;exact Hnum.out,(Below.refl _ _).alloc (Nat.le_refl _) _⟩
   ·by_cases h2:s.toList=[]
    ·have hno:¬jD s.data.toList:=by
      rw[←Htl.out,h2];rintro ⟨_,h3 | h3⟩
      ·cases h3
      ·exact h3.1 rfl
     have Hno:=hid hno;clear hno
     go_wp2
     go_ret;exact⟨false,rfl,by simp;exact Hno.out,(Below.refl _ _).alloc (Nat.le_refl _) _⟩
    ·have h0:0<s.size:=by
      rcases Nat.eq_zero_or_pos s.size with h3 | h3
      ·exfalso;apply h2;rw[Htl.out];exact List.length_eq_zero_iff.1 (by simpa using h3)
      ·exact h3
     have hhd:s.data.toList.head? =some s[0]:=by rw[List.head?_eq_getElem?];exact xr s 0 h0
     have hb1:(s.toList==[48])=false:=by simpa using h1
     have hb2:s.toList.isEmpty=false:=by simpa using h2
     by_cases h4:(s[0]).toNat=48
     ·have hno:¬jD s.data.toList:=by
       rintro ⟨_,h3 | h3⟩
       ·exact h1 (by rw[Htl.out];exact h3)
       ·apply h3.2;rw[hhd];congr 1;exact UInt8.toNat_inj.1 h4
      have Hno:=hid hno;have H4:=hid h4
      have hb3:(((s[0]).toNat:Int) != 48)=false:=by rw[h4];rfl
      clear hno h4 hhd h1 h2
      go_wp2
      go_ret;exact⟨false,rfl,by simp;exact Hno.out,(Below.refl _ _).alloc (Nat.le_refl _) _⟩
     ·have hyes:jD s.data.toList:=by
       refine⟨Hall.out,.inr ⟨by rw[←Htl.out];exact h2,?_⟩⟩;rw[hhd];intro e;apply h4;rw[Option.some.inj e];rfl
      have Hyes:=hid hyes
      have hb3:(((s[0]).toNat:Int) != 48)=true:=by simpa using (by omega:¬((s[0]).toNat:Int)=48)
      clear hyes h4 hhd h1 h2
      go_wp2
      go_ret;exact⟨true,rfl,by simp;exact Hyes.out,(Below.refl _ _).alloc (Nat.le_refl _) _⟩
end Go.Proofs.YtneafcdfnhnpnaaGreatDoor
namespace Go.Proofs.YtneafcdfnhnpnaaGreatDoor
open Go.RowKit
theorem LI {P:Program} (w:World) {ops:Array Oper} {rest:List Oper} {o:Oper} {a:Act} {Q:Exit→Act→World→Prop} (hgd:o.guard=none) (s x:Operand) (t:TypeId)
  (ho:o.op = .call { callee:= .builtin .append,args:= #[s,x],argTypes:= #[t,t] })
  (base:Nat) (e:TypeId) (i:TypeInfo) (z:Value) (size bytes:Nat) (ht:P.underlying t=some (.slice e)) (hi:P.info? e=some i) (hz:i.zero=some z)
  (hsize:i.size=size) (hby:i.bytes=bytes) (hzs:z.cells.size=size) (hsz:0<size)
  (v:Value) (n:Nat) (xs:List Value) (hs:a.eval s=v) (hown:w.ownsRow base e size v n xs)
  (ad:Addr) (m c:Nat) (news:List Value) (hx:a.eval x = .slice (some ad) m c) (hl:news.length=m*size) (hnews:∀j u,news[j]? =some u→w.cell? (ad.add j)=some u) (h1:∀u∈news,u.oneCell'=true)
  (h63:n+m≤maxLen) (hbytes:(n+m)*bytes≤140737488355328) (hbase:base≤w.heap.size) (hm:0<m)
  (Pc:Value→Prop) (hall:ks w Pc v) (hnw:∀u∈news,Pc u) (hzc:∀u∈z.cells.toList,Pc u)
  (h:∀v' w',w'.ownsRow base e size v' (n+m) (xs++news)→w.grownBy w' v.ownBlock→ks w' Pc v'→(v'.ownBlock=v.ownBlock∨v'.ownBlock=some w.heap.size)→wpList P ops Q rest (a.put o.dst v') w'):wpList P ops Q (o::rest) a w:=
 wpList_plain hgd fun K hK=>by
  obtain⟨v',w',hr,h2,h3,_,h5⟩:=run_append_own_at (P:=P) w base t o.type e i z size bytes ht hi hz hsize hby hzs hsz v n xs hown ad m c news hl hnews h1 h63 hbytes hbase;have h4:=Up w base t o.type e i z size bytes ht hi hz hsize hby hzs hsz v n xs hown ad m c news hl hnews h1 h63 hbytes hm Pc hall hnw hzc hr;unfold Oper.wp execOp;simp only[ho,resolve,invoke,builtin,Sem.run_bind,Sem.run_pure,Result.andThen_ok,List.map_toArray,List.map_cons,List.map_nil,hs,hx,hr];exact hK _ _ (h v' w' h2 h3 h4 h5)
end Go.Proofs.YtneafcdfnhnpnaaGreatDoor
namespace Go.Proofs.YtneafcdfnhnpnaaGreatDoor
section
variable {K:Type} [Lean.Grind.Field K] {T:Type} {F:Fd T} {P:T→Prop} {φ:T→K}
structure JO (F:Fd T) (P:T→Prop) (φ:T→K):Prop where
 pz:P F.z
 z0:φ F.z=0
 isZ:∀a,P a→(F.isZ a=true↔φ a=0)
 sub:∀a b,P a→P b→P (F.sub a b)∧φ (F.sub a b)=φ a-φ b
 mul:∀a b,P a→P b→P (F.mul a b)∧φ (F.mul a b)=φ a*φ b
 div:∀a b,P a→P b→φ b≠0→P (F.div a b)∧φ (F.div a b)=φ a*(φ b)⁻¹
def Qz (P:T→Prop) (m n:Nat) (R:List (jV T)):Prop:=R.length=m ∧ ∀i,i<m→(jG R i).length=n ∧ ∀x∈jG R i,P x
theorem KP (H:JO F P φ) {L:List T} (h:∀x∈L,P x) (k:Nat):P (L[k]?.getD F.z):=by
 rcases Nat.lt_or_ge k L.length with h1 | h1
 ·rw[List.getElem?_eq_getElem h1];exact h _ (List.getElem_mem h1)
 ·rw[List.getElem?_eq_none h1];exact H.pz
theorem Tq (H:JO F P φ) {L:List T} (h:∀x∈L,P x) {d:T} (hd:P d) (hd0:φ d≠0) {o:Nat} (h0:∀k,k<o→φ (L[k]?.getD F.z)=0):
  (∀x∈kf F d o L,P x) ∧ ∀k:Nat,φ ((kf F d o L)[k]?.getD F.z)=φ (L[k]?.getD F.z)*(φ d)⁻¹:=by
 have key:∀(k:Nat) (x:T),P x→φ x=φ (L[k]?.getD F.z)→P (if o≤k then (if F.isZ x=true then x else F.div x d) else x)∧φ (if o≤k then (if F.isZ x=true then x else F.div x d) else x)=φ (L[k]?.getD F.z)*(φ d)⁻¹:=by
  intro k x hx e;split
  ·split
   ·rename_i hz
    have:=(H.isZ x hx).1 hz;exact⟨hx,by rw[←e,this];grind⟩
   ·have:=H.div x d hx hd hd0
    exact⟨this.1,by rw[this.2,e]⟩
  ·exact⟨hx,by rw[e,h0 k (by omega)];grind⟩
 refine⟨fun x hx=> ?_,fun k=> ?_⟩
 ·obtain⟨k,hk,rfl⟩:=List.mem_mapIdx.1 hx
  exact(key k L[k] (h _ (List.getElem_mem hk)) (by rw[List.getElem?_eq_getElem hk];rfl)).1
 ·unfold kf
  rw[List.getElem?_mapIdx];rcases Nat.lt_or_ge k L.length with h1 | h1
  ·have:=(key k L[k] (h _ (List.getElem_mem h1)) (by rw[List.getElem?_eq_getElem h1];rfl)).2
   rw[List.getElem?_eq_getElem h1] at this ⊢;exact this
  ·rw[List.getElem?_eq_none h1]
   show φ F.z=φ F.z*_
   rw[H.z0];grind
theorem UG (H:JO F P φ) {L Q:List T} (h:∀x∈L,P x) (hQ:∀x∈Q,P x) (hl:L.length=Q.length) {o:Nat} (h0:∀k,k<o→φ (Q[k]?.getD F.z)=0):
  (∀x∈kX F o L Q,P x) ∧ ∀k:Nat,φ ((kX F o L Q)[k]?.getD F.z)=φ (L[k]?.getD F.z)-φ (L[o]?.getD F.z)*φ (Q[k]?.getD F.z):=by
 have hLo:=KP H h o;by_cases hz:F.isZ (L[o]?.getD F.z)=true
 ·have e:kX F o L Q=L:=by unfold kX;rw[if_pos hz]
  have:=(H.isZ _ hLo).1 hz;rw[e,this];exact⟨h,fun k=>by grind⟩
 ·have e:kX F o L Q=L.mapIdx fun j y=>if o≤j then (if F.isZ (Q[j]?.getD F.z)=true then y else F.sub y (F.mul (L[o]?.getD F.z) (Q[j]?.getD F.z))) else y:=by unfold kX;rw[if_neg hz]
  have key:∀(k:Nat) (y:T),P y→φ y=φ (L[k]?.getD F.z)→P (if o≤k then (if F.isZ (Q[k]?.getD F.z)=true then y else F.sub y (F.mul (L[o]?.getD F.z) (Q[k]?.getD F.z))) else y) ∧
    φ (if o≤k then (if F.isZ (Q[k]?.getD F.z)=true then y else F.sub y (F.mul (L[o]?.getD F.z) (Q[k]?.getD F.z))) else y)=φ (L[k]?.getD F.z)-φ (L[o]?.getD F.z)*φ (Q[k]?.getD F.z):=by
   intro k y hy ey;have hq:=KP H hQ k;split
   ·split
    ·rename_i h1
     have:=(H.isZ _ hq).1 h1;exact⟨hy,by rw[ey,this];grind⟩
    ·have hm:=H.mul _ _ hLo hq
     have hs:=H.sub _ _ hy hm.1;exact⟨hs.1,by rw[hs.2,hm.2,ey]⟩
   ·exact⟨hy,by rw[ey,h0 k (by omega)];grind⟩
  rw[e];refine⟨fun x hx=> ?_,fun k=> ?_⟩
  ·obtain⟨k,hk,rfl⟩:=List.mem_mapIdx.1 hx
   exact(key k L[k] (h _ (List.getElem_mem hk)) (by rw[List.getElem?_eq_getElem hk];rfl)).1
  ·rw[List.getElem?_mapIdx]
   rcases Nat.lt_or_ge k L.length with h1 | h1
   ·have:=(key k L[k] (h _ (List.getElem_mem h1)) (by rw[List.getElem?_eq_getElem h1];rfl)).2
    rw[List.getElem?_eq_getElem h1] at this ⊢;exact this
   ·rw[List.getElem?_eq_none h1,List.getElem?_eq_none (l:=Q) (by omega)]
    show φ F.z=φ F.z-_*φ F.z
    rw[H.z0];grind
theorem Vf (H:JO F P φ) {m n row col:Nat} {S:jz T} (hG:Qz P m n S.rows) (hq:S.cols.length<m) (hr:row<m) (hd:φ (jI F S.rows row col)≠0) (h0:∀k,k<col→φ (jI F S.rows row k)=0):
  Qz P m n (jU F row col S).rows ∧ ∀i,i<m → ∀k,φ (jI F (jU F row col S).rows i k)=ZH (fun i k=>φ (jI F S.rows i k)) S.cols.length row col i k:=by
 obtain⟨hlen,hrows⟩:=hG
 have hsw:∀i,i<m→sw S.cols.length row i<m:=fun i hi=>by unfold sw;split;exact hr;split <;> omega
 have hswq:sw S.cols.length row S.cols.length=row:=by unfold sw;rw[if_pos rfl]
 have r1:∀i,jG (jX row S) i=jG S.rows (sw S.cols.length row i):=fun i=>Gu (by omega) (by omega) i
 have hpiv:elPiv F row col S=jI F S.rows row col:=by unfold elPiv jI;rw[r1,hswq]
 have r2:∀i,jG (elDiv F row col S) i=if i=S.cols.length then kf F (jI F S.rows row col) col (jG S.rows row) else jG S.rows (sw S.cols.length row i):=by
  intro i;unfold elDiv;rw[Gv (by rw[YG];omega),hpiv,r1,hswq,r1]
 have l2:(elDiv F row col S).length=m:=by unfold elDiv;rw[JE,YG,hlen]
 have hP:=Tq H (hrows row hr).2 (d:=jI F S.rows row col) (KP H (hrows row hr).2 col) hd h0
 have lP:(kf F (jI F S.rows row col) col (jG S.rows row)).length=n:=by rw[Jq];exact(hrows row hr).1
 have r3:∀i,i<m→jG (jU F row col S).rows i=if i=S.cols.length then kf F (jI F S.rows row col) col (jG S.rows row) else kX F col (jG S.rows (sw S.cols.length row i)) (kf F (jI F S.rows row col) col (jG S.rows row)):=by
  intro i hi
  show jG (ke F S.cols.length col (jG (elDiv F row col S) S.cols.length) (elDiv F row col S) (elDiv F row col S).length) i=_
  rw[Gs i (by omega),r2 i,r2 S.cols.length,if_pos rfl];by_cases h:i=S.cols.length
  ·rw[if_neg (fun x=>x.2 h),if_pos h,if_pos h]
  ·rw[if_pos ⟨by omega,h⟩,if_neg h,if_neg h]
 have hz:∀k,k<col→φ ((kf F (jI F S.rows row col) col (jG S.rows row))[k]?.getD F.z)=0:=by
  intro k hk;have e:=h0 k hk;unfold jI at e;rw[hP.2,e];grind
 refine⟨⟨?_,fun i hi=> ?_⟩,fun i hi k=> ?_⟩
 ·show (ke F S.cols.length col (jG (elDiv F row col S) S.cols.length) (elDiv F row col S) (elDiv F row col S).length).length=m
  rw[R6,l2]
 ·rw[r3 i hi]
  split
  ·exact⟨lP,hP.1⟩
  ·have hs:=hrows _ (hsw i hi)
   exact⟨by rw[QP];exact hs.1,(UG H hs.2 hP.1 (by rw[hs.1,lP]) hz).1⟩
 ·unfold jI
  rw[r3 i hi];unfold ZH;by_cases h:i=S.cols.length
  ·rw[if_pos h,if_pos h,hP.2 k];rfl
  ·rw[if_neg h,if_neg h]
   have hs:=hrows _ (hsw i hi);rw[(UG H hs.2 hP.1 (by rw[hs.1,lP]) hz).2 k,hP.2 k];rfl
end
section
variable {K:Type} [Lean.Grind.Field K] {m n:Nat} {M A A':Nat→Nat→K} {q fr:Nat} {c c':Nat→Nat}
variable {T:Type} {F:Fd T} {P:T→Prop} {φ:T→K}
theorem TW {n k fr:Nat} {S:jz T} (h:kP F S.rows S.cols.length (n-fr) fr=none):jH F n (k+1) fr S=S:=by
 unfold jH;rw[h]
theorem TZ {n k fr row col:Nat} {S:jz T} (h:kP F S.rows S.cols.length (n-fr) fr=some (row,col)):jH F n (k+1) fr S=jH F n k (col+1) (jU F row col S):=by
 conv=>lhs;unfold jH
 rw[h]
end
end Go.Proofs.YtneafcdfnhnpnaaGreatDoor
namespace Go.Proofs.YtneafcdfnhnpnaaGreatDoor
open Go.RowKit Go.Lib
def Ka (i:Nat) (c:UInt8):Prop:=xg (c.toNat:Int)=true∨(i≠0∧(xf (c.toNat:Int)=true∨c.toNat=95))
instance (i:Nat) (c:UInt8):Decidable (Ka i c):=by unfold Ka;infer_instance
def K3 (l:List UInt8) (k:Nat):Prop:=∀i,i<k → ∀c,l[i]? =some c→Ka i c
def Kv (l:List UInt8):Prop:=(l≠[]∧l.length≤24)∧K3 l l.length
theorem K3.succ {l:List UInt8} {k:Nat} {c:UInt8} (h:K3 l k) (hc:l[k]? =some c) (hn:Ka k c):K3 l (k+1):=fun i hi c' hc'=>by
 rcases Nat.lt_or_ge i k with h1 | h1
 ·exact h i h1 c' hc'
 ·have:i=k:=by omega
  subst this;rw[hc] at hc';cases hc';exact hn
theorem V8 {l:List UInt8} {k:Nat} {c:UInt8} (hc:l[k]? =some c) (hn:¬Ka k c):¬Kv l:=fun h=>hn (h.2 k (List.getElem?_eq_some_iff.1 hc).1 c hc)
def Ab (s:ByteArray) (w:World) (e:Ending) (w':World):Prop:=∃b:Bool,e = .returned (.bool b)∧(b=true↔Kv s.data.toList)∧Below w.heap.size w w'
theorem Z6 (s:ByteArray) (w:World) (hs:s.size≤9223372036854775807):
  Calls Tryz.prog 32 #[.string s] w (Ab s w):=by
 by_cases h0:s.size=0
 ·have hno:¬Kv s.data.toList:=fun h=>h.1.1 (List.length_eq_zero_iff.1 (by simpa using h0))
  have Hno:=hid hno
  have hb:((s.size:Int)==0)=true:=by rw[h0];rfl
  clear hno h0;go_enter Tryz.func32,Tryz.ntmps32
  go_wp2
  go_ret;exact⟨false,rfl,by simp;exact Hno.out,Below.refl _ _⟩
 have hb0:((s.size:Int)==0)=false:=by simpa using h0
 by_cases h24:s.size≤24
 ·have hb1:¬((s.size:Int)>24):=by omega
  have hnb:s.data.toList≠[]∧s.data.toList.length≤24:=⟨fun h=>h0 (by have:=congrArg List.length h;simpa using this),by simpa using h24⟩
  have HNB:=hid hnb;clear hnb h0;go_enter Tryz.func32,Tryz.ntmps32
  go_wp2
  go_loopw [3,4,15] (fun _ _ _ wr=>∃pos:Nat,wr=w.iter s pos∧pos≤s.size∧Hid (K3 s.data.toList pos)) (fun _ _ _ wr=>s.size-wr.iterPos w.heap.size)
  case atStart=>exact⟨0,rfl,by omega,hid (fun i hi=>by omega)⟩
  case round=>
   obtain⟨pos,rfl,hp,hd⟩:=hrel;by_cases hlt:pos<s.size
   ·have hge:=xr s pos hlt
    by_cases hasc:(s[pos]).toNat<128
    ·have hnx:=fun ty=>run_next_ascii (P:=Tryz.prog) w s pos ty hlt hasc
     have HY:=hid (fun hn=>hd.out.succ hge hn);have HN:=hid (fun hn=>V8 hge hn);clear hge hd;generalize s[pos]=c at *;have HA:Hid (Ka pos c↔(xg (c.toNat:Int)=true∨(pos≠0∧(xf (c.toNat:Int)=true∨c.toNat=95)))):=hid Iff.rfl
     cases hL:xg (c.toNat:Int) with
     | true=>
      have HR:=hid (HY.out (HA.out.2 (.inl hL)));clear HY HN HA
      go_wp2_with (go_at_call 122;refine(Jv _ _).mono ?_;rintro e w' ⟨rfl,rfl⟩;rw[hL])
      exact⟨⟨pos+1,rfl,by omega,HR⟩,by rw[World.iterPos_iter,World.iterPos_iter];omega⟩
     | false=>
      by_cases hp0:pos=0
      ·have Hno:=hid (HN.out (fun h=>by rcases HA.out.1 h with h | h;rw[hL] at h;cases h;exact h.1 hp0))
       have hb2:((pos:Int)==0)=true:=by rw[hp0];rfl
       clear HY HN HA hp0
       go_wp2_with (go_at_call 122;refine(Jv _ _).mono ?_;rintro e w' ⟨rfl,rfl⟩;rw[hL])
       go_ret;exact⟨false,rfl,by simp;exact Hno.out,(Below.refl _ _).alloc (Nat.le_refl _) _⟩
      ·have hb2:((pos:Int)==0)=false:=by simpa using hp0
       cases hD:xf (c.toNat:Int) with
       | true=>
        have HR:=hid (HY.out (HA.out.2 (.inr ⟨hp0,.inl hD⟩)));clear HY HN HA hp0
        go_wp2_with (first | (go_at_call 122;refine(Jv _ _).mono ?_;rintro e w' ⟨rfl,rfl⟩;rw[hL]) | (go_at_call 123;refine(Ju _ _).mono ?_;rintro e w' ⟨rfl,rfl⟩;rw[hD]))
        exact⟨⟨pos+1,rfl,by omega,HR⟩,by rw[World.iterPos_iter,World.iterPos_iter];omega⟩
       | false=>
        by_cases hU:c.toNat=95
        ·have HR:=hid (HY.out (HA.out.2 (.inr ⟨hp0,.inr hU⟩)))
         have hb3:((c.toNat:Int) != 95)=false:=by rw[hU];rfl
         clear HY HN HA hp0 hU
         go_wp2_with (first | (go_at_call 122;refine(Jv _ _).mono ?_;rintro e w' ⟨rfl,rfl⟩;rw[hL]) | (go_at_call 123;refine(Ju _ _).mono ?_;rintro e w' ⟨rfl,rfl⟩;rw[hD]))
         exact⟨⟨pos+1,rfl,by omega,HR⟩,by rw[World.iterPos_iter,World.iterPos_iter];omega⟩
        ·have Hno:=hid (HN.out (fun h=>by
          rcases HA.out.1 h with h | ⟨_,h | h⟩
          ·rw[hL] at h;cases h
          ·rw[hD] at h;cases h
          ·exact hU h))
         have hb3:((c.toNat:Int) != 95)=true:=by simpa using (by omega:¬(c.toNat:Int)=95)
         clear HY HN HA hp0 hU
         go_wp2_with (first | (go_at_call 122;refine(Jv _ _).mono ?_;rintro e w' ⟨rfl,rfl⟩;rw[hL]) | (go_at_call 123;refine(Ju _ _).mono ?_;rintro e w' ⟨rfl,rfl⟩;rw[hD]))
         go_ret;exact⟨false,rfl,by simp;exact Hno.out,(Below.refl _ _).alloc (Nat.le_refl _) _⟩
    ·have hnx:=fun ty=>run_next_any (P:=Tryz.prog) w s pos ty hlt
     obtain⟨hr1,hr2⟩:=decode_high s pos hlt (by omega)
     have hD:xf ((Utf8.decode s pos).1:Int)=false:=by unfold xf;simp;omega
     have hL:xg ((Utf8.decode s pos).1:Int)=false:=by unfold xg;simp;omega
     have hb3:(((Utf8.decode s pos).1:Int) != 95)=true:=by simpa using (by omega:¬((Utf8.decode s pos).1:Int)=95)
     have Hno:=hid (V8 hge (by
      rintro (h | ⟨_,h | h⟩)
      ·have:=of_decide_eq_true h;omega
      ·have:=of_decide_eq_true h;omega
      ·omega))
     clear hge hd hasc;by_cases hp0:pos=0
     ·have hb2:((pos:Int)==0)=true:=by rw[hp0];rfl
      clear hp0;generalize Utf8.decode s pos=dd at *
      go_wp2_with (go_at_call 122;refine(Jv _ _).mono ?_;rintro e w' ⟨rfl,rfl⟩;rw[hL])
      go_ret;exact⟨false,rfl,by simp;exact Hno.out,(Below.refl _ _).alloc (Nat.le_refl _) _⟩
     ·have hb2:((pos:Int)==0)=false:=by simpa using hp0
      clear hp0;generalize Utf8.decode s pos=dd at *
      go_wp2_with (first | (go_at_call 122;refine(Jv _ _).mono ?_;rintro e w' ⟨rfl,rfl⟩;rw[hL]) | (go_at_call 123;refine(Ju _ _).mono ?_;rintro e w' ⟨rfl,rfl⟩;rw[hD]))
      go_ret;exact⟨false,rfl,by simp;exact Hno.out,(Below.refl _ _).alloc (Nat.le_refl _) _⟩
   ·have hnx:=fun ty=>run_next_end (P:=Tryz.prog) w s pos ty hlt
    have hlen:s.data.toList.length=s.size:=by simp
    have Hyes:Hid (Kv s.data.toList):=hid ⟨HNB.out,fun i hi c hc=>hd.out i (by omega) c hc⟩;clear hlen;clear hd
    go_wp2
    go_ret;exact⟨true,rfl,by simp;exact Hyes.out,(Below.refl _ _).alloc (Nat.le_refl _) _⟩
 ·have hb1:((s.size:Int)>24):=by omega
  have hno:¬Kv s.data.toList:=fun h=>h24 (by simpa using h.1.2)
  have Hno:=hid hno;clear hno h0 h24;go_enter Tryz.func32,Tryz.ntmps32
  go_wp2
  go_ret;exact⟨false,rfl,by simp;exact Hno.out,Below.refl _ _⟩
