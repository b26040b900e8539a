/- Plain mathematics of numbers as lists of digits to the base 10^9. -/
import Derived.Test.YtneafcdfnhnpnaaGreatDoorZU10
import Derived.Test.YtneafcdfnhnpnaaGreatDoorZU01
namespace Go.Proofs.YtneafcdfnhnpnaaGreatDoor
open Go.RowKit Go.Lib
theorem bnorm_length {ws:List Nat} (h:wnorm ws) {n:Nat} (hv:bval ws<B9^n):ws.length≤n:=by
 rcases Nat.lt_or_ge n ws.length with hl | hl
 ·have hne:ws≠[]:=by intro e;subst e;simp at hl
  have:=bnorm_last h hne
  have h2:B9^n≤B9^(ws.length-1):=Nat.pow_le_pow_right (by decide) (by omega)
  omega
 ·exact hl
theorem bval_lt_of_length {a b:List Nat} (ha:bok a) (hb:wnorm b) (h:a.length<b.length):bval a<bval b:=by
 have h1:=bval_lt ha
 have h2:=bnorm_last hb (by intro e;subst e;simp at h)
 have h3:B9^a.length≤B9^(b.length-1):=Nat.pow_le_pow_right (by decide) (by omega)
 omega
theorem bval_split3 (ws:List Nat) (k:Nat) (hk:k<ws.length):bval ws=bval (ws.take k)+B9^k*(ws[k]?.getD 0+B9*bval (ws.drop (k+1))):=by
 have h:ws=ws.take k++(ws[k]?.getD 0::ws.drop (k+1)):=by
  rw[List.getElem?_eq_getElem hk]
  simp
 conv=>lhs;rw[h]
 rw[bval_append]
 simp only[bval,List.length_take]
 rw[Nat.min_eq_left (by omega)]
theorem bval_lt_at {a b:List Nat} (ha:bok a) (hl:a.length=b.length) (k:Nat) (hk:k<a.length) (hd:a.drop (k+1)=b.drop (k+1)) (hlt:a[k]?.getD 0<b[k]?.getD 0):bval a<bval b:=by
 rw[bval_split3 a k hk,bval_split3 b k (by omega),hd]
 have h1:=bval_lt (bok_take ha k)
 rw[List.length_take,Nat.min_eq_left (by omega)] at h1
 generalize bval (b.drop (k+1))=D at *
 generalize a[k]?.getD 0=x at *
 generalize b[k]?.getD 0=y at *
 have h2:B9^k*(x+B9*D)+B9^k*1≤B9^k*(y+B9*D):=by rw[←Nat.mul_add];exact Nat.mul_le_mul_left _ (by omega)
 omega
theorem bval_take_succ (ws:List Nat) (k:Nat):bval (ws.take (k+1))=bval (ws.take k)+B9^k*ws[k]?.getD 0:=by
 rcases Nat.lt_or_ge k ws.length with h | h
 ·rw[take_succ_nat ws k h,bval_concat,List.length_take,Nat.min_eq_left (by omega)]
 ·rw[List.take_of_length_le (by omega),List.take_of_length_le h,List.getElem?_eq_none h];simp
theorem bok_set {L:List Nat} (h:bok L) (k x:Nat) (hx:x<B9):bok (L.set k x):=by
 intro y hy
 rcases List.mem_or_eq_of_mem_set hy with h1 | h1
 ·exact h y h1
 ·omega
theorem bok_replicate (n:Nat):bok (List.replicate n 0):=by
 intro x hx;rw[List.eq_of_mem_replicate hx];decide
theorem bval_take_le (ws:List Nat) (k:Nat):bval (ws.take k)≤bval ws:=by
 conv=>rhs;rw[←List.take_append_drop k ws]
 rw[bval_append];omega
def DivB (xs L:List Nat) (b k r:Nat):Prop:=L.length=xs.length∧bok L∧r<b∧bval (xs.drop k)=bval (L.drop k)*b+r
theorem DivB.start (xs:List Nat) (b:Nat) (hb:0<b):DivB xs (List.replicate xs.length 0) b xs.length 0:=
 ⟨by simp,bok_replicate _,hb,by simp[bval]⟩
theorem DivB.step {xs L:List Nat} {b k r:Nat} (h:DivB xs L b (k+1) r) (hk:k<xs.length) (hb:0<b) (hq:(r*B9+xs[k]?.getD 0)/b<B9):
  DivB xs (L.set k ((r*B9+xs[k]?.getD 0)/b)) b k ((r*B9+xs[k]?.getD 0)%b):=by
 obtain⟨h1,h2,h3,h4⟩:=h
 refine⟨by simp[h1],bok_set h2 _ _ hq,Nat.mod_lt _ hb,?_⟩
 rw[drop_cons xs k hk,drop_cons (L.set k _) k (by simp;omega),get_set_same _ _ _ (by omega),List.drop_set_of_lt (by omega)]
 simp only[bval,h4]
 have:=Nat.div_add_mod (r*B9+xs[k]?.getD 0) b
 generalize (r*B9+xs[k]?.getD 0)/b=q at *
 generalize (r*B9+xs[k]?.getD 0)%b=r' at *
 have e:B9*(bval (L.drop (k+1))*b+r)=B9*bval (L.drop (k+1))*b+r*B9:=by rw[Nat.mul_add,Nat.mul_assoc,Nat.mul_comm B9 r]
 rw[e,Nat.add_mul,Nat.mul_comm q b]
 omega
theorem div_dig {b r x:Nat} (hr:r<b) (hx:x<B9):(r*B9+x)/b<B9:=by
 rw[Nat.div_lt_iff_lt_mul (by omega),Nat.mul_comm B9 b]
 have:(r+1)*B9≤b*B9:=Nat.mul_le_mul_right _ hr
 rw[Nat.add_mul] at this
 omega
theorem DivB.last {xs L:List Nat} {b r:Nat} (h:DivB xs L b 0 r):bval L=bval xs/b∧r=bval xs%b:=by
 obtain⟨h1,h2,h3,h4⟩:=h
 simp only[List.drop_zero] at h4
 rw[h4]
 refine⟨?_,?_⟩
 ·rw[Nat.mul_comm,Nat.mul_add_div (by omega),Nat.div_eq_of_lt h3];omega
 ·rw[Nat.mul_comm,Nat.mul_add_mod,Nat.mod_eq_of_lt h3]
theorem bval_set (L:List Nat) (j d:Nat) (h:j<L.length):bval (L.set j d)+B9^j*L[j]?.getD 0=bval L+B9^j*d:=by
 rw[bval_split3 L j h,bval_split3 (L.set j d) j (by simpa using h),take_set_le _ _ _ _ (Nat.le_refl _),get_set_same L j d h,List.drop_set_of_lt (by omega)]
 simp only[Nat.mul_add];omega
def APB (bs L0 L:List Nat) (f off k c:Nat):Prop:=L.length=L0.length∧bok L∧L.drop (off+bs.length)=L0.drop (off+bs.length)∧c<B9 ∧
 bval L+B9^(off+k)*c=bval L0+B9^off*(bval (bs.take k)*f)
theorem APB.start {bs L0:List Nat} (f off:Nat) (h:bok L0):APB bs L0 L0 f off 0 0:=⟨rfl,h,rfl,by decide,by simp[bval]⟩
theorem APB.step {bs L0 L:List Nat} {f off k c d c':Nat} (h:APB bs L0 L f off k c) (hk:k<bs.length) (hlen:off+bs.length≤L0.length) (hd:d<B9) (hc:c'<B9)
  (he:d+B9*c'=L[off+k]?.getD 0+c+bs[k]?.getD 0*f):APB bs L0 (L.set (off+k) d) f off (k+1) c':=by
 obtain⟨h1,h2,h3,h4,h5⟩:=h
 refine⟨by simp[h1],bok_set h2 _ _ hd,by rw[List.drop_set_of_lt (by omega)];exact h3,hc,?_⟩
 have hs:=bval_set L (off+k) d (by omega)
 rw[bval_take_succ bs,show off+(k+1)=(off+k)+1 from by omega,Nat.pow_succ]
 have e:B9^(off+k)*(d+B9*c')=B9^(off+k)*(L[off+k]?.getD 0+c+bs[k]?.getD 0*f):=by rw[he]
 have e2:B9^off*(B9^k*bs[k]?.getD 0*f)=B9^(off+k)*(bs[k]?.getD 0*f):=by rw[Nat.pow_add,Nat.mul_assoc,Nat.mul_assoc]
 simp only[Nat.mul_add,Nat.add_mul,e2] at e hs h5 ⊢
 rw[Nat.mul_assoc (B9^(off+k)) B9 c']
 omega
def TimesB (xs bs L:List Nat) (k:Nat):Prop:=L.length=xs.length+bs.length∧bok L∧bval L=bval (xs.take k)*bval bs∧L.drop (k+bs.length)=List.replicate (xs.length-k) 0
theorem TimesB.start (xs bs:List Nat):TimesB xs bs (List.replicate (xs.length+bs.length) 0) 0:=by
 refine⟨by simp,bok_replicate _,?_,by simp⟩
 simp only[List.take_zero,bval,Nat.zero_mul]
 induction (xs.length+bs.length) with
 | zero=>rfl
 | succ n ih=>simp[List.replicate_succ,bval,ih]
theorem TimesB.step {xs bs L L':List Nat} {k c:Nat} (h:TimesB xs bs L k) (hk:k<xs.length) (ha:APB bs L L' (xs[k]?.getD 0) k bs.length c):
  TimesB xs bs (L'.set (k+bs.length) c) (k+1):=by
 obtain⟨h1,h2,h3,h4⟩:=h
 obtain⟨a1,a2,a3,a4,a5⟩:=ha
 have hs:=bval_set L' (k+bs.length) c (by omega)
 have hz:L'[k+bs.length]?.getD 0=0:=by
  have:L'.drop (k+bs.length)=List.replicate (xs.length-k) 0:=by rw[a3,h4]
  have e:(L'.drop (k+bs.length))[0]?.getD 0=L'[k+bs.length]?.getD 0:=by simp
  rw[←e,this]
  rw[List.getElem?_replicate];split <;> rfl
 rw[hz] at hs
 refine⟨by simp;omega,bok_set a2 _ _ a4,?_,?_⟩
 ·rw[bval_take_succ xs]
  rw[List.take_of_length_le (Nat.le_refl _),h3] at a5
  simp only[Nat.add_mul]
  rw[Nat.mul_assoc,Nat.mul_comm (xs[k]?.getD 0) (bval bs)]
  omega
 ·rw[show k+1+bs.length=k+bs.length+1 from by omega,List.drop_set_of_lt (by omega),←List.drop_drop,a3,h4,List.drop_replicate]
  congr 1
theorem TimesB.last {xs bs L:List Nat} (h:TimesB xs bs L xs.length):bval L=bval xs*bval bs:=by
 obtain⟨h1,h2,h3,h4⟩:=h
 rw[h3,List.take_of_length_le (Nat.le_refl _)]
structure Kn (B P top u2 v1 v2 U V:Nat):Prop where
 lo:(top*B+u2)*P≤U
 hi:U<(top*B+u2+1)*P
 vlo:(v1*B+v2)*P≤V
 vhi:V<(v1*B+v2+1)*P
 v2lt:v2<B
 u2lt:u2<B
 lt:U<B*V
 norm:B≤2*v1
theorem Kn.pos {B P top u2 v1 v2 U V:Nat} (h:Kn B P top u2 v1 v2 U V):0<P:=by
 rcases Nat.eq_zero_or_pos P with h0 | h0
 ·have:=h.hi;rw[h0] at this;omega
 ·exact h0
theorem Kn.top_le {B P top u2 v1 v2 U V:Nat} (h:Kn B P top u2 v1 v2 U V):top≤v1*B+v2:=by
 have h1:(top*B+u2)*P<(B*(v1*B+v2+1))*P:=by
  have h2:B*V<B*((v1*B+v2+1)*P):=Nat.mul_lt_mul_of_pos_left h.vhi (by have:=h.v2lt;omega)
  have:=h.lo
  have:=h.lt
  rw[Nat.mul_assoc]
  omega
 have h2:=Nat.lt_of_mul_lt_mul_right h1
 have h3:B*top<B*(v1*B+v2+1):=by rw[Nat.mul_comm B top];omega
 have:=Nat.lt_of_mul_lt_mul_left h3
 omega
theorem Kn.third {B P top u2 v1 v2 U V t r:Nat} (h:Kn B P top u2 v1 v2 U V) (e:top=t*v1+r) (ht:B<t):r+v1<B:=by
 have h1:=h.top_le
 have h2:=h.v2lt
 have h3:(B+1)*v1≤t*v1:=Nat.mul_le_mul_right _ ht
 rw[Nat.add_mul,Nat.mul_comm B v1] at h3
 omega
theorem Kn.over {B P top u2 v1 v2 U V t r:Nat} (h:Kn B P top u2 v1 v2 U V) (e:top=t*v1+r) (ht:r*B+u2<t*v2):U<t*V:=by
 have h1:top*B+u2+1≤t*(v1*B+v2):=by
  rw[e,Nat.add_mul,Nat.mul_add,←Nat.mul_assoc]
  omega
 have h2:(top*B+u2+1)*P≤t*(v1*B+v2)*P:=Nat.mul_le_mul_right _ h1
 have h3:t*((v1*B+v2)*P)≤t*V:=Nat.mul_le_mul_left _ h.vlo
 rw[←Nat.mul_assoc] at h3
 have:=h.hi
 omega
theorem Kn.good {B P top u2 v1 v2 U V t r:Nat} (h:Kn B P top u2 v1 v2 U V) (e:top=t*v1+r) (ht:t*v2≤r*B+u2) (hb:t<B):t*V<U+V:=by
 have h1:t*(v1*B+v2)≤top*B+u2:=by
  rw[e,Nat.add_mul,Nat.mul_add,←Nat.mul_assoc]
  omega
 have h2:t*(v1*B+v2)*P≤(top*B+u2)*P:=Nat.mul_le_mul_right _ h1
 have h3:t*V≤t*((v1*B+v2+1)*P):=Nat.mul_le_mul_left _ (Nat.le_of_lt h.vhi)
 have h4:t*((v1*B+v2+1)*P)=t*(v1*B+v2)*P+t*P:=by
  rw[Nat.add_mul,Nat.mul_add,Nat.one_mul,←Nat.mul_assoc]
 have h5:t*P<B*P:=Nat.mul_lt_mul_of_pos_right hb h.pos
 have h6:1*(B*P)≤v1*(B*P):=Nat.mul_le_mul_right _ (by have:=h.norm;omega)
 have h7:=h.vlo
 rw[Nat.add_mul,Nat.mul_assoc] at h7
 have:=h.lo
 omega
theorem Kn.far {B P top u2 v1 v2 U V t r:Nat} (h:Kn B P top u2 v1 v2 U V) (hr:B≤r) (hb:t<B):t*v2≤r*B+u2:=by
 have h1:t*v2≤B*B:=Nat.mul_le_mul (Nat.le_of_lt hb) (Nat.le_of_lt h.v2lt)
 have h2:B*B≤r*B:=Nat.mul_le_mul_right _ hr
 omega
def KnI (top v1 U V t r:Nat):Prop:=top=t*v1+r∧U<(t+1)*V
theorem Kn.start {B P top u2 v1 v2 U V:Nat} (h:Kn B P top u2 v1 v2 U V):KnI top v1 U V (top/v1) (top%v1):=by
 have hv:0<v1:=by have:=h.norm;have:=h.v2lt;omega
 have h0:=Nat.div_add_mod top v1
 have hm:=Nat.mod_lt top hv
 refine⟨by rw[Nat.mul_comm];exact h0.symm,?_⟩
 generalize top/v1=t at *
 have h1:top+1≤(t+1)*v1:=by rw[Nat.add_mul,Nat.mul_comm t v1];omega
 have h2:(top+1)*B≤(t+1)*v1*B:=Nat.mul_le_mul_right _ h1
 have h3:top*B+u2+1≤(t+1)*v1*B:=by have:=h.u2lt;rw[Nat.add_mul] at h2;omega
 have h4:(top*B+u2+1)*P≤(t+1)*v1*B*P:=Nat.mul_le_mul_right _ h3
 have h5:(t+1)*((v1*B+v2)*P)≤(t+1)*V:=Nat.mul_le_mul_left _ h.vlo
 have h6:(t+1)*v1*B*P≤(t+1)*((v1*B+v2)*P):=by
  rw[Nat.mul_assoc,Nat.mul_assoc,←Nat.mul_assoc v1 B P]
  exact Nat.mul_le_mul_left _ (Nat.mul_le_mul_right _ (Nat.le_add_right _ _))
 have:=h.hi
 omega
theorem Kn.down {B P top u2 v1 v2 U V t r:Nat} (h:Kn B P top u2 v1 v2 U V) (hI:KnI top v1 U V t r) (ht:B≤t∨r*B+u2<t*v2):∃t',t=t'+1∧KnI top v1 U V t' (r+v1):=by
 have h1:U<t*V:=by
  rcases ht with ht | ht
  ·exact Nat.lt_of_lt_of_le h.lt (Nat.mul_le_mul_right _ ht)
  ·exact h.over hI.1 ht
 cases t with
 | zero=>rw[Nat.zero_mul] at h1;omega
 | succ t'=>
  refine⟨t',rfl,?_,h1⟩
  have:=hI.1
  rw[Nat.add_mul] at this
  omega
def Digit (B U V t:Nat):Prop:=t<B∧t*V<U+V∧U<(t+1)*V
theorem Kn.exit {B P top u2 v1 v2 U V t r:Nat} (h:Kn B P top u2 v1 v2 U V) (hI:KnI top v1 U V t r) (hb:t<B) (ht:t*v2≤r*B+u2):Digit B U V t:=
 ⟨hb,h.good hI.1 ht hb,hI.2⟩
theorem Kn.exit_far {B P top u2 v1 v2 U V t r:Nat} (h:Kn B P top u2 v1 v2 U V) (hI:KnI top v1 U V (t+1) r) (hI2:KnI top v1 U V t (r+v1)) (hr:B≤r+v1):Digit B U V t:=by
 have hb:t<B:=by
  rcases Nat.lt_or_ge t B with h1 | h1
  ·exact h1
  ·have:=h.third hI.1 (by omega);omega
 exact h.exit hI2 hb (h.far hr hb)
theorem kn_of {us vs:List Nat} {j m:Nat} (hu:bok us) (hv:bok vs) (hl:vs.length=m+2) (hul:j+m+2<us.length) (hz:bval (us.drop (j+m+3))=0)
  (hlt:bval (us.drop j)<B9*bval vs) (hn:B9≤2*vs[m+1]?.getD 0):
  Kn B9 (B9^m) (us[j+m+2]?.getD 0*B9+us[j+m+1]?.getD 0) (us[j+m]?.getD 0) (vs[m+1]?.getD 0) (vs[m]?.getD 0) (bval (us.drop j)) (bval vs):=by
 have e1:bval (us.drop j)=bval ((us.drop j).take m)+B9^m*((us[j+m+2]?.getD 0*B9+us[j+m+1]?.getD 0)*B9+us[j+m]?.getD 0):=by
  rw[bval_split (us.drop j) m (by rw[List.length_drop];omega),List.drop_drop,bval_drop us (j+m) (by omega),bval_drop us (j+m+1) (by omega),bval_drop us (j+m+1+1) (by omega),show j+m+1+1+1=j+m+3 from rfl,hz]
  congr 2
  show us[j+m]?.getD 0+B9*(us[j+m+1]?.getD 0+B9*(us[j+m+2]?.getD 0+B9*0))=_
  generalize us[j+m]?.getD 0=a
  generalize us[j+m+1]?.getD 0=b
  generalize us[j+m+2]?.getD 0=c
  unfold B9;omega
 have e2:bval vs=bval (vs.take m)+B9^m*(vs[m+1]?.getD 0*B9+vs[m]?.getD 0):=by
  rw[bval_split vs m (by omega),bval_drop vs m (by omega),bval_drop vs (m+1) (by omega),List.drop_of_length_le (by omega)]
  congr 2
  simp only[bval]
  generalize vs[m]?.getD 0=a
  generalize vs[m+1]?.getD 0=b
  unfold B9;omega
 have b1:=bval_lt (bok_take (ws:=us.drop j) (fun x hx=>hu x (List.mem_of_mem_drop hx)) m)
 have b2:=bval_lt (bok_take hv m)
 have p1:B9^((us.drop j).take m).length≤B9^m:=Nat.pow_le_pow_right (by decide) (by rw[List.length_take];omega)
 have p2:B9^(vs.take m).length≤B9^m:=Nat.pow_le_pow_right (by decide) (by rw[List.length_take];omega)
 have q1:=bok_get hu (j+m)
 have q2:=bok_get hv m
 obtain⟨X,hX⟩:∃X,(us[j+m+2]?.getD 0*B9+us[j+m+1]?.getD 0)*B9+us[j+m]?.getD 0=X:=⟨_,rfl⟩
 obtain⟨Y,hY⟩:∃Y,vs[m+1]?.getD 0*B9+vs[m]?.getD 0=Y:=⟨_,rfl⟩
 rw[hX] at e1
 rw[hY] at e2
 refine⟨?_,?_,?_,?_,q2,q1,hlt,hn⟩
 ·rw[hX,e1,Nat.mul_comm];omega
 ·rw[hX,e1,Nat.mul_comm (X+1),Nat.mul_add,Nat.mul_one];omega
 ·rw[hY,e2,Nat.mul_comm];omega
 ·rw[hY,e2,Nat.mul_comm (Y+1),Nat.mul_add,Nat.mul_one];omega
def SMB (vs L0 L:List Nat) (t j k br:Nat):Prop:=L.length=L0.length∧bok L∧L.take j=L0.take j∧L.drop (j+vs.length)=L0.drop (j+vs.length)∧br<B9 ∧
 bval L+B9^j*(bval (vs.take k)*t)=bval L0+B9^(j+k)*br
theorem SMB.start {vs L0:List Nat} (t j:Nat) (h:bok L0):SMB vs L0 L0 t j 0 0:=⟨rfl,h,rfl,rfl,by decide,by simp[bval]⟩
theorem SMB.step {vs L0 L:List Nat} {t j k br d br':Nat} (h:SMB vs L0 L t j k br) (hk:k<vs.length) (hlen:j+vs.length≤L0.length) (hd:d<B9) (hb:br'<B9)
  (he:d+vs[k]?.getD 0*t+br=L[j+k]?.getD 0+B9*br'):SMB vs L0 (L.set (j+k) d) t j (k+1) br':=by
 obtain⟨h1,h2,h3,h4,h5,h6⟩:=h
 refine⟨by simp[h1],bok_set h2 _ _ hd,by rw[take_set_le _ _ _ _ (by omega)];exact h3,by rw[List.drop_set_of_lt (by omega)];exact h4,hb,?_⟩
 have hs:=bval_set L (j+k) d (by omega)
 rw[bval_take_succ vs,show j+(k+1)=(j+k)+1 from by omega,Nat.pow_succ]
 have e:B9^(j+k)*(d+vs[k]?.getD 0*t+br)=B9^(j+k)*(L[j+k]?.getD 0+B9*br'):=by rw[he]
 have e2:B9^j*(B9^k*vs[k]?.getD 0*t)=B9^(j+k)*(vs[k]?.getD 0*t):=by rw[Nat.pow_add,Nat.mul_assoc,Nat.mul_assoc]
 simp only[Nat.mul_add,Nat.add_mul,e2] at e hs h6 ⊢
 rw[Nat.mul_assoc (B9^(j+k)) B9 br']
 omega
theorem sm_dig (z v t br:Nat) (hz:z<B9) (hv:v<B9) (ht:t<B9) (hb:br<B9):v*t+br<1000000000000000000 ∧
  (((v*t+br)%B9≤z→(v*t+br)/B9<B9∧z-(v*t+br)%B9<B9∧(z-(v*t+br)%B9)+v*t+br=z+B9*((v*t+br)/B9)) ∧
  (z<(v*t+br)%B9→(v*t+br)/B9+1<B9∧z+B9-(v*t+br)%B9<B9∧(z+B9-(v*t+br)%B9)+v*t+br=z+B9*((v*t+br)/B9+1))):=by
 have h1:v*t≤(B9-1)*(B9-1):=Nat.mul_le_mul (by omega) (by omega)
 generalize v*t=p at *
 unfold B9 at *
 omega
end Go.Proofs.YtneafcdfnhnpnaaGreatDoor
namespace Go.Proofs.YtneafcdfnhnpnaaGreatDoor
def BH:Nat:=4294967296
theorem WB_BH:WB=BH*BH:=by unfold WB BH;rfl
theorem kn_one {top u2 v1 v2:Nat} (h1:v2<BH) (h2:u2<BH) (h3:top*BH+u2<BH*(v1*BH+v2)) (h4:BH≤2*v1):Kn BH 1 top u2 v1 v2 (top*BH+u2) (v1*BH+v2):=
 ⟨by omega,by omega,by omega,by omega,h1,h2,h3,h4⟩
theorem kn_exact {top u2 v1 v2 t r:Nat} (hI:KnI top v1 (top*BH+u2) (v1*BH+v2) t r) (ht:t*v2≤r*BH+u2):t*(v1*BH+v2)≤top*BH+u2∧top*BH+u2<(t+1)*(v1*BH+v2):=by
 refine⟨?_,hI.2⟩
 rw[hI.1,Nat.mul_add,Nat.add_mul,←Nat.mul_assoc]
 omega
theorem dq_join {hi lo y s V a b u1 u0 q1 q0 un21 q r:Nat} (hN:(hi*WB+lo)*s=(a*BH+u1)*BH+u0) (hV:V=y*s) (hs:0<s)
  (e1:a*BH+u1=q1*V+un21) (e2:un21*BH+u0=q0*V+b) (hb:b<V) (h:hi*WB+lo=q*y+r) (hr:r<y):q1*BH+q0=q∧b/s=r:=by
 have h1:(hi*WB+lo)*s=(q1*BH+q0)*V+b:=by
  rw[hN,e1,Nat.add_mul,Nat.add_assoc,e2,Nat.add_mul]
  have:q1*V*BH=q1*BH*V:=by rw[Nat.mul_assoc,Nat.mul_comm V,←Nat.mul_assoc]
  omega
 rw[h,hV,Nat.add_mul,Nat.mul_assoc] at h1
 rw[hV] at hb
 have hy:0<y*s:=by omega
 have hrs:r*s<y*s:=Nat.mul_lt_mul_of_pos_right hr hs
 have d1:(q*(y*s)+r*s)/(y*s)=q:=by
  rw[Nat.mul_comm q,Nat.mul_add_div hy,Nat.div_eq_of_lt hrs];omega
 have d2:((q1*BH+q0)*(y*s)+b)/(y*s)=q1*BH+q0:=by
  rw[Nat.mul_comm (q1*BH+q0),Nat.mul_add_div hy,Nat.div_eq_of_lt hb];omega
 rw[h1,d2] at d1
 refine⟨d1,?_⟩
 rw[d1] at h1
 have:b=r*s:=by omega
 rw[this,Nat.mul_div_cancel _ hs]
end Go.Proofs.YtneafcdfnhnpnaaGreatDoor
