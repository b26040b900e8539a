/- Contracts of the reference: floors, machine integers out of texts. -/
import Derived.Test.YtneafcdfnhnpnaaGreatDoorZK31
set_option maxRecDepth 100000
set_option maxHeartbeats 16000000
namespace Go.Proofs.YtneafcdfnhnpnaaGreatDoor
open Go.RowKit Go.Lib
theorem JQ (q:Rat) (w:World) (h:Kx q):Calls Tryz.prog 61 #[.string ⟨(jg q).toArray⟩] w fun e w'=>e = .returned (.bool (decide (q.den=1)))∧w=w':=by
 generalize hss:(⟨(jg q).toArray⟩:ByteArray)=s
 have hs:s.data.toList=jg q:=by rw[←hss]
 have hz:=kw hs;have hl:=Gm q h;have SL:=hid (fun W=>zi s W (by omega));rw[hs] at SL
 have hb:(((jk (jg q):Nat):Int)==(s.size:Int))=decide (q.den=1):=by
  rw[hz,XE];by_cases hd:q.den=1
  ·rw[if_pos hd,List.append_nil,GB (XH (qw _)),decide_eq_true hd];simp
  ·rw[if_neg hd,Gz (XH (qw _)),decide_eq_false hd]
   have:¬((((if decide (q.num<0)=true then [45] else [])++decDigits q.num.natAbs:List UInt8).length:Int)=((((if decide (q.num<0)=true then [45] else [])++decDigits q.num.natAbs)++47::decDigits q.den:List UInt8).length:Int)):=by
    rw[List.length_append (bs:=47::decDigits q.den),List.length_cons];omega
   simpa using this
 generalize jk (jg q)=k at *;generalize decide (q.den=1)=b at *;clear hss hs hz hl h;go_enter Tryz.func61,Tryz.ntmps61
 go_wp2_with fail
 refine(SL.out _).mono ?_;rintro e w1 ⟨rfl,rfl⟩
 go_wp2
 go_ret;exact⟨by rw[←hb];rfl,rfl⟩
theorem Ts (u v:Value) (x y:Nat) (w:World) (hu:Ri w u (x:Int)) (hv:Ri w v (y:Int)) (hy:0<y) (bx:jN x) (_by:jN y):
  Calls Tryz.prog 198 #[u,v] w (kN ((x/y:Nat):Int) w):=by
 obtain⟨dx,rfl,hdx⟩:=hu.dg;obtain⟨dy,rfl,hdy⟩:=hv.dg;rw[Int.natAbs_natCast] at hdx hdy;rw[decide_eq_false (by omega:¬(x:Int)<0),decide_eq_false (by omega:¬(y:Int)<0)];obtain⟨ps,A,c,rfl,e1,o1,l1,s1⟩:=hdx.slice bx;obtain⟨qs,B,d,rfl,e2,o2,l2,s2⟩:=hdy.slice _by
 obtain⟨W0,hW0⟩:∃W0,W0=((w.alloc (.cells #[.bool false,.slice A ps.length c] 127)).alloc (.cells #[.bool false,.slice B qs.length d] 127)).alloc (.cells #[.bool false,.slice none 0 0] 127):=⟨_,rfl⟩
 have hP:P3 w W0 false false (.slice A ps.length c) (.slice B qs.length d):=by rw[hW0];exact P3.mk w false false _ _
 have KS:=hid (S3.start hP);have DV:=hid (J5 _ _ x y W0 (hdx.below hP.1) (hdy.below hP.1) hy bx);have hR0:=hid hP.2.2.2.2;clear hu hv hdx hdy s1 s2 o1 o2 l1 l2 e1 e2 hP hy bx _by;generalize ps.length=n at *;generalize qs.length=m at *;obtain⟨a0,a1,b0,b1,hsz,hbl⟩:=KS.out.all;go_enter Tryz.func198,Tryz.ntmps198
 go_upto_region 1 with fail
 rw[←hW0];clear hW0
 go_wp2_with fail
 refine DV.out.mono ?_;rintro e w1 ⟨qv,rv,rfl,hq,hr,hB1⟩;replace KS:=hid (KS.out.call hB1);have hR1:=qj hB1 hR0;obtain⟨ws,hw1,hw2,hw3,hw4⟩:=hq;have SG:=hid (xj false qv ws w1 hw2 hw4);obtain⟨QA,qn,qc,rfl,_⟩:=(show Dg w1 qv (x/y) from ⟨ws,hw1,hw2,hw3,hw4⟩).size_;obtain⟨RA,rn,rc,rfl,_⟩:=hr.size_;rw[hw1,show sg false (x/y)=((x/y:Nat):Int) from by unfold sg;rw[if_neg (by decide)]] at SG;clear a0 a1 b0 b1 hsz hbl hB1 DV hR0 hr hw1 hw2 hw3 hw4;obtain⟨a0,a1,b0,b1,hsz,hbl⟩:=KS.out.all
 go_wp2_with fail
 refine SG.out.mono ?_;rintro e w2 ⟨sv,rfl,hri,hB2⟩;have hR2:=qj hB2 hR1;obtain⟨r0,r1,k0,k1⟩:=hR2.out.two;obtain⟨SA,sn,sc,rfl,_,_⟩:=hri.open_;generalize hbz:decide (((x/y:Nat):Int)<0)=bz at *;have HRF:=hid (hri.put2 (a':= .bool bz) (b':= .slice SA sn sc) hR2.out (js _) (jq _ _ _) (js _));have HBF:Hid (Below w.heap.size w ((w2.setCell ⟨w.heap.size+1+1,0,none⟩ (.bool bz)).setCell ⟨w.heap.size+1+1,1,none⟩ (.slice SA sn sc))):=hid (((hbl.trans (hB2.mono hbl.size)).setCell (p:=⟨w.heap.size+1+1,0,none⟩) (by simp;omega) _).setCell (p:=⟨w.heap.size+1+1,1,none⟩) (by simp;omega) _);clear hri hB2 SG hbz a0 a1 b0 b1
 go_wp2
 obtain⟨z0,z1,_,_⟩:=(hR2.out.set2 (a':= .bool bz) (b':= .slice SA sn sc)).two;exact bodyPost_ret (v:= .agg #[.bool bz,.slice SA sn sc]) (by simp[results,Tryz.results198,go_sem,z0,z1]) rfl ⟨_,rfl,HRF.out,HBF.out⟩
theorem Nh (n:Nat):xe (n:Int)=decDigits n:=by unfold xe;rw[if_neg (by omega)];rfl
theorem MF (q:Rat) (w:World) (hq:ks q) (h0:0≤q.num):Calls Tryz.prog 144 #[.string ⟨(jg q).toArray⟩] w (kn (decDigits (q.num.natAbs/q.den)) w):=by
 have IW:=hid (fun W=>JQ q W hq.bigD);have PA:=hid (fun W=>Ki q W hq.bigD);by_cases hd:q.den=1
 ·have HE:Hid (jg q=decDigits (q.num.natAbs/q.den)):=hid (by rw[hd,Nat.div_one];unfold jg;rw[if_neg (by omega),if_pos hd];simp)
  rw[decide_eq_true hd] at IW;have HS:Hid ((⟨(jg q).toArray⟩:ByteArray)=⟨(decDigits (q.num.natAbs/q.den)).toArray⟩):=hid (by rw[HE.out]);generalize (⟨(jg q).toArray⟩:ByteArray)=s at *;clear hd HE PA;go_enter Tryz.func144,Tryz.ntmps144
  go_wp2_with fail
  refine(IW.out _).mono ?_;rintro e w1 ⟨rfl,rfl⟩
  go_wp2
  go_ret;exact⟨by rw[HS.out];rfl,Below.refl _ _⟩
 ·rw[decide_eq_false hd] at IW
  have e1:q.num=((q.num.natAbs:Nat):Int):=by omega
  have FD:=hid (fun W a b (ha:Ri W a q.num) (hb:Ri W b (q.den:Int))=>Ts a b q.num.natAbs q.den W (by rw[←e1];exact ha) hb q.den_pos (qZ hq.1) (qZ hq.2));have TX:=hid (fun W v (hv:Ri W v ((q.num.natAbs/q.den:Nat):Int))=>Jf v _ W hv);rw[Nh] at TX;generalize (⟨(jg q).toArray⟩:ByteArray)=s at *;generalize q.num.natAbs/q.den=r at *;generalize q.num=x at *;generalize (q.den:Int)=y at *;clear hd h0 hq e1;go_enter Tryz.func144,Tryz.ntmps144
  go_wp2_with fail
  refine(IW.out _).mono ?_;rintro e w0 ⟨rfl,rfl⟩
  go_wp2_with fail
  refine(PA.out _).mono ?_;rintro e w1 ⟨vp,vq,rfl,rp,rq,hB1⟩;obtain⟨Ap,np,cp,rfl,_,_⟩:=rp.open_;obtain⟨Aq,nq_,cq,rfl,_,_⟩:=rq.open_;generalize decide (x<0)=bp at *;generalize decide (y<0)=bq at *;obtain⟨W1,hW1,hBW1,hz1,o1,o2,rp1,rq1⟩:=zk rp rq
  go_upto_region 4 with fail
  rw[←hW1];have HB1:=hid (hB1.trans (hBW1.mono hB1.size));have HF:=hid (FD.out W1 _ _ rp1 rq1);obtain⟨a0,a1⟩:=o1.cell2;obtain⟨b0,b1⟩:=o2.cell2;clear hW1 hBW1 hz1 o1 o2 rp1 rq1 rp rq hB1 FD PA IW
  go_wp2_with fail
  refine HF.out.mono ?_;rintro e w2 ⟨rv,rfl,hri,hB2⟩;have HT:=hid (TX.out w2 rv hri);have HB2:=hid (HB1.out.trans (hB2.mono HB1.out.size));clear hri hB2 HF TX
  go_wp2_with fail
  refine HT.out.mono ?_;rintro e w3 ⟨rfl,hB3⟩;have HBF:=hid (HB2.out.trans (hB3.mono HB2.out.size));clear hB3 HT
  go_wp2
  go_ret;exact⟨rfl,HBF.out⟩
def Fj (m:Nat) (w:World) (e:Ending) (w':World):Prop:=e = .returned (.tuple #[.int .i64 (m:Int),.bool true])∧Below w.heap.size w w'
theorem M6 (m:Nat) (w:World) (hm:m<1000000000):Calls Tryz.prog 143 #[.string ⟨(decDigits m).toArray⟩] w (Fj m w):=by
 have hl9:=QT hm;have IW:=hid (fun W=>JQ ((m:Int):Rat) W (yH (qP (Nat.lt_trans hm (by decide)))).bigD);rw[qO,decide_eq_true (show ((m:Int):Rat).den=1 from rfl)] at IW;have PS:=hid (fun W=>Xs false ⟨(decDigits m).toArray⟩ (decDigits m) W (by simp) (qw m) (yZ m) (by omega));rw[y4,show sg false m=(m:Int) from by unfold sg;rw[if_neg (by decide)]] at PS;generalize hss:(⟨(decDigits m).toArray⟩:ByteArray)=s at *
 have hz:s.size=(decDigits m).length:=by rw[←hss];simp[ByteArray.size]
 have hzI:decide ((20:Int)<(s.size:Int))=false:=decide_eq_false (by omega)
 have hmI:(m:Int)<1000000000:=by omega
 have HM:=hid hm;clear hss hz hl9 hm;go_enter Tryz.func143,Tryz.ntmps143
 go_wp2_with fail
 refine(IW.out _).mono ?_;rintro e w0 ⟨rfl,rfl⟩
 go_wp2_with fail
 refine(PS.out _).mono ?_;rintro e w1 ⟨vp,rfl,rp,hB1⟩;obtain⟨dv,rfl,hdv⟩:=rp.dg;rw[Int.natAbs_natCast] at hdv;rw[decide_eq_false (by omega:¬(m:Int)<0)];rcases Nat.eq_zero_or_pos m with h0 | h0
 ·subst h0
  obtain⟨A,c,rfl⟩:=hdv.zero_
  obtain⟨W1,hW1⟩:∃W1,W1=w1.alloc (.cells #[.bool false,.slice A 0 c] 127):=⟨_,rfl⟩
  have hO:ja W1 w1.heap.size 127 [.bool false,.slice A 0 c]:=by rw[hW1];exact ja.make w1 _ [.bool false,.slice A 0 c]
  have HB:Hid (Below w.heap.size w W1):=hid (by rw[hW1];exact hB1.alloc hB1.size _);obtain⟨a0,a1⟩:=hO.cell2;clear rp hdv hB1 PS IW
  go_upto_region 4 with fail
  rw[←hW1];clear hW1 hO
  go_wp2
  go_loopg [5,6,7] 0 (fun g out i _ wr=>g=0∧i = .int .i64 (-1)∧out = .int .i64 0∧wr=W1)
  case atStart=>exact⟨rfl,rfl,rfl,rfl⟩
  case round=>
   obtain⟨_,rfl,rfl,rfl⟩:=hrel
   go_wp2
   go_ret2;exact⟨rfl,HB.out⟩
 ·obtain⟨b,off,c,rfl,hb,hc⟩:=hdv.one h0 HM.out
  obtain⟨W1,hW1⟩:∃W1,W1=w1.alloc (.cells #[.bool false,.slice (some ⟨b,off,none⟩) 1 c] 127):=⟨_,rfl⟩
  have hO:ja W1 w1.heap.size 127 [.bool false,.slice (some ⟨b,off,none⟩) 1 c]:=by rw[hW1];exact ja.make w1 _ [.bool false,.slice (some ⟨b,off,none⟩) 1 c]
  have hBa:Below w1.heap.size w1 W1:=by rw[hW1];exact(Below.refl _ _).alloc (Nat.le_refl _) _
  have hcc:=(hBa.cell (p:=⟨b,off,none⟩) hb).trans hc;have HB:Hid (Below w.heap.size w W1):=hid (hB1.trans (hBa.mono hB1.size));obtain⟨a0,a1⟩:=hO.cell2;clear rp hdv hB1 PS IW hc
  go_upto_region 4 with fail
  rw[←hW1];clear hW1 hO hBa hb
  go_wp2
  go_loopg [5,6,7] 1 (fun g out i _ wr=>((g=1∧i = .int .i64 0∧out = .int .i64 0)∨(g=0∧i = .int .i64 (-1)∧out = .int .i64 (m:Int)))∧wr=W1)
  case atStart=>exact⟨.inl ⟨rfl,rfl,rfl⟩,rfl⟩
  case round=>
   obtain⟨⟨hg,rfl,rfl⟩ | ⟨hg,rfl,rfl⟩,rfl⟩:=hrel
   ·subst hg
    go_wp2
    go_roundg 0
    case rel=>exact⟨.inr ⟨rfl,by go_num,by go_num⟩,rfl⟩
    case measure=>omega
   ·subst hg
    go_wp2
    go_ret2;exact⟨rfl,HB.out⟩
theorem YN (x m:Nat):qr x m=x/jw m:=by
 induction m with
 | zero=>show x=x/1;rw[Nat.div_one]
 | succ m ih=>
  show qr x m/(m+1)=x/((m+1)*jw m)
  rw[ih,Nat.div_div_eq_div_mul,Nat.mul_comm]
theorem G3 (x g:Nat):(x%jw (g+1))/jw g=qr x g%(g+1):=by
 rw[YN,jw];exact Nat.mod_mul_left_div_self _ _ _
theorem Fs (x g:Nat):x%jw (g+1)-(x%jw (g+1))/jw g*jw g=x%jw g:=by
 have h1:x%jw (g+1)%jw g=x%jw g:=Nat.mod_mod_of_dvd _ ⟨g+1,by rw[jw,Nat.mul_comm]⟩;have h2:=Nat.div_add_mod (x%jw (g+1)) (jw g);rw[Nat.mul_comm] at h2;omega
theorem Ub.grown {w w':World} {g K cap:Nat} {cs:List Value} {row:Option Nat} (h:Ub w g K cap cs) (hg:w.grownBy w' row) (hr:row≠some g):Ub w' g K cap cs:=by
 have hl:=h.lt;obtain⟨h0,h2,h3,cur,h1,h4⟩:=h;exact⟨h0,h2,h3,cur,(hg.block g hl (fun e=>hr e.symm)).trans h1,h4⟩
theorem XL {P:Program} {ops:Array Oper} {o:Oper} {a:Act} {w:World} {K:Act→World→Prop} {Q:Exit→Act→World→Prop} {E:Prop} (hgd:o.guard=none) (s x:Operand) (t:TypeId)
  (ho:o.op = .call { callee:= .builtin .append,args:= #[s,x],argTypes:= #[t,t] })
  (base:Nat) (e:TypeId) (i:TypeInfo) (z:Value) (size bytes:Nat) (ht:P.underlying t=some (.slice e)) (hi:P.info? e=some i) (hz:i.zero=some z)
  (hsize:i.size=size) (hby:i.bytes=bytes) (hzs:z.cells.size=size) (hsz:0<size)
  (v:Value) (n:Nat) (xs:List Value) (hs:a.eval s=v) (hown:w.ownsRow base e size v n xs)
  (ad:Addr) (m c:Nat) (news:List Value) (hx:a.eval x = .slice (some ad) m c) (hl:news.length=m*size) (hnews:∀j u,news[j]? =some u→w.cell? (ad.add j)=some u) (h1:∀u∈news,u.oneCell'=true)
  (h63:n+m≤maxLen) (hbytes:(n+m)*bytes≤140737488355328) (hbase:base≤w.heap.size)
  (h:∀v' w',w'.ownsRow base e size v' (n+m) (xs++news)→w.grownBy w' v.ownBlock→K (a.put o.dst v') w'):
  if Region.wanted o (yielded ops a.tmps)=true then Oper.wp P o a w K Q else E:=by
 have hw:Region.wanted o (yielded ops a.tmps)=true:=by simp[Region.wanted,hgd]
 rw[if_pos hw];exact wp_append_own w s x t ho base e i z size bytes ht hi hz hsize hby hzs hsz v n xs hs hown ad m c news hx hl hnews h1 h63 hbytes hbase (fun v' w' h2 h3 _=>h v' w' h2 h3)
theorem Vs (a b:List Int):jc a++jc b=jc (a++b):=by simp[jc]
theorem Xa (L:List Int):∀u∈jc L,u.oneCell'=true:=by
 intro u hu;obtain⟨x,_,rfl⟩:=List.mem_map.1 hu;rfl
theorem S9 (L:List Int) (d:Nat):L.take d++L.drop (d+1)=L.eraseIdx d:=(List.eraseIdx_eq_take_drop_succ L d).symm
theorem Sx (R f:Nat) (w:World) (hR:R<10^90) (hf:f<10^90) (f0:0<f):
  Calls Tryz.prog 31 #[.string ⟨(decDigits R).toArray⟩,.string ⟨(decDigits f).toArray⟩] w (kn (jg (mkRat (R:Int) f)) w):=by
 have h:=ME ((R:Int):Rat) ((f:Int):Rat) w (yH (qP hR)) (yH (qP hf)) (by
  intro e;have:=congrArg Rat.num e;have h2:((f:Int):Rat).num=(f:Int):=rfl;rw[h2] at this;have h3:(0:Rat).num=0:=rfl;rw[h3] at this
  omega)
 rw[qO,qO,JC] at h;exact h
theorem N6 {R f d m:Nat} {n:Int} (hm:m≠0) (h1:(R:Int)=n*(m:Int)) (h2:f=d*m):n.natAbs/d=R/f∧0≤n:=by
 have hn:R=n.natAbs*m:=by
  have:=congrArg Int.natAbs h1;rw[Int.natAbs_mul] at this;simpa using this
 refine⟨by rw[hn,h2,Nat.mul_div_mul_right _ _ (by omega)],?_⟩;rcases Int.lt_or_le n 0 with h | h
 ·have:n*(m:Int)<0:=Int.mul_neg_of_neg_of_pos h (by omega)
  omega
 ·exact h
theorem NR (R f:Nat) (f0:0<f):(mkRat (R:Int) f).num.natAbs/(mkRat (R:Int) f).den=R/f∧0≤(mkRat (R:Int) f).num:=by
 obtain⟨m,hm,h1,h2⟩:=Rat.mkRat_num_den (by omega:f≠0) (rfl:mkRat (R:Int) f=⟨(mkRat (R:Int) f).num,(mkRat (R:Int) f).den,(mkRat (R:Int) f).den_nz,(mkRat (R:Int) f).reduced⟩);exact N6 hm h1 h2
theorem Tt (R f:Nat) (w:World) (hR:R<10^90) (hf:f<10^90) (f0:0<f):
  Calls Tryz.prog 144 #[.string ⟨(jg (mkRat (R:Int) f)).toArray⟩] w (kn (decDigits (R/f)) w):=by
 obtain⟨h1,h2⟩:=NR R f f0;obtain⟨h3,h4⟩:=Xk (R:Int) f (by omega);rw[Int.natAbs_natCast] at h3;have h:=MF (mkRat (R:Int) f) w ⟨Nat.lt_of_le_of_lt h3 (qP hR),Nat.lt_of_le_of_lt h4 (qP hf)⟩ h2;rw[h1] at h;exact h
def ZQ (x n g:Nat) (base:Nat) (lv ov:Value) (w:World):Prop:=
 ∃(k lb lc:Nat),k+g=n∧w.ownsRow base 3 1 ov k (jc (jT (kg x n n) k).1) ∧
  (0<g→lv = .slice (some ⟨lb,0,none⟩) g lc∧Ub w lb g lc (jc (jT (kg x n n) k).2) ∧ ∀j,ov.ownBlock=some j→j<lb)
theorem D6 (x n k g:Nat) (h:k+(g+1)=n):(((kg x n n)[k]?.getD 0)).toNat=(x%jw (g+1))/jw g:=by
 rw[Vc x n n k (Nat.le_refl _) (by omega) (by omega),G3,show n-1-k=g from by omega,show n-k=g+1 from by omega]
 show (((qr x g%(g+1):Nat)):Int).toNat=_
 exact Int.toNat_natCast _
theorem G0 {w:World} {g K cap:Nat} {L:List Int} (h:Ub w g K cap (jc L)) (a m:Nat) (hm:a+m≤K):∀j u,(jc ((L.drop a).take m))[j]? =some u→w.cell? ((⟨g,a,none⟩:Addr).add j)=some u:=by
 intro j u hu;have hl:=h.1;rw[jQ] at hl;obtain⟨hj,_⟩:=List.getElem?_eq_some_iff.1 hu;rw[jQ,List.length_take,List.length_drop] at hj;rw[Lib.add_plain,h.cell (by omega)];rw[←hu];simp only[jc,List.getElem?_map,List.getElem?_take,List.getElem?_drop];rw[if_pos (by omega)]
section
variable {w9 w10 w11:World} {v1 v2 ov:Value} {O L:List Int} {k g d n x base:Nat}
theorem G5 {row:Option Nat} (hg1:(w9.alloc (.cells #[] 3)).drew.grownBy w10 row):w9.heap.size≤w10.heap.size:=by
 have h:(w9.alloc (.cells #[] 3)).heap.size≤w10.heap.size:=hg1.size;rw[World.size_alloc] at h;omega
theorem ZR {m:Nat} {xs:List Value} {t:TypeId} (ho1:w10.ownsRow w9.heap.size t 1 v1 m xs) (hg1:(w9.alloc (.cells #[] 3)).drew.grownBy w10 (Value.slice (some ⟨w9.heap.size,0,none⟩) 0 0).ownBlock) (hg2:w10.grownBy w11 v1.ownBlock):Below w9.heap.size w9 w11:=by
 have h1:Below w9.heap.size w9 (w9.alloc (.cells #[] 3)).drew:=((Below.refl _ _).alloc (Nat.le_refl _) _).drew;have h2:Below w9.heap.size w9 w10:=Below.grown h1 hg1 h1.size (fun j hj=>by have h:some w9.heap.size=some j:=hj;injection h with h;omega);exact Below.grown h2 hg2 h2.size (fun j hj=>(ho1.lt j hj).1)
theorem G4 (hk:k+(g+1)=n) (hp1:(jT (kg x n n) (k+1)).1=O) (hp2:(jT (kg x n n) (k+1)).2=L.eraseIdx d) (ho:w9.ownsRow base 3 1 ov (k+1) (jc O))
  (ho1:w10.ownsRow w9.heap.size 3 1 v1 (0+d) ([]++jc ((L.drop 0).take d))) (hg1:(w9.alloc (.cells #[] 3)).drew.grownBy w10 (Value.slice (some ⟨w9.heap.size,0,none⟩) 0 0).ownBlock)
  (ho2:w11.ownsRow w9.heap.size 3 1 v2 (0+d+(g-d)) ([]++jc ((L.drop 0).take d)++jc ((L.drop (d+1)).take (g-d)))) (hg2:w10.grownBy w11 v1.ownBlock) (hl:L.length=g+1) (hd:d≤g):ZQ x n g base v2 ov w11:=by
 have hb:=ZR ho1 hg1 hg2
 have e1:0+d+(g-d)=g:=by omega
 have e2:[]++jc ((L.drop 0).take d)++jc ((L.drop (d+1)).take (g-d))=jc (L.eraseIdx d):=by
  have e3:(L.drop (d+1)).take (g-d)=L.drop (d+1):=List.take_of_length_le (by rw[List.length_drop];omega);rw[List.nil_append,List.drop_zero,Vs,e3,S9]
 rw[e1,e2] at ho2;rcases Nat.eq_zero_or_pos g with h0 | h0
 ·exact⟨k+1,0,0,by omega,by rw[hp1];exact kC ho hb,fun h=>by omega⟩
 ·obtain⟨lb,lc,rfl,hlb,_,hU⟩:=Ub.of_owns ho2 h0
  exact⟨k+1,lb,lc,by omega,by rw[hp1];exact kC ho hb,fun _=>⟨rfl,by rw[hp2];exact hU,fun j hj=>by have:=(ho.lt j hj).2;omega⟩⟩
end
theorem BV (n x:Nat) (w:World) (hn:n≤30) (hx:x<jw n):
  Calls Tryz.prog 64 #[.int .i64 n,.string ⟨(decDigits x).toArray⟩] w (fun e w'=>∃v,e = .returned v∧jE w' v (jc (jT (kg x n n) n).1)∧Below w.heap.size w w'):=by
 obtain⟨i0,hi,hz0,hz1,hz2⟩:=info_parts yc;have HN:=hid hn;have HX:=hid hx
 have hnI:(n:Int)≤30:=by omega
 have HI:=hid (BO n w (by omega));clear hx hn;go_enter Tryz.func64,Tryz.ntmps64
 go_wp2_with fail
 refine HI.out.mono ?_;rintro e w1 ⟨lv0,rfl,hlO,hB1⟩
 have HR0:Hid (ZQ x n n w.heap.size lv0 (.slice none 0 0) w1):=hid (by
  rcases Nat.eq_zero_or_pos n with h0 | h0
  ·exact⟨0,0,0,by omega,World.ownsRow_nil _ _ _ _,fun h=>by omega⟩
  ·obtain⟨lb,lc,rfl,_,_,hU⟩:=Ub.of_owns hlO h0
   refine⟨0,lb,lc,by omega,World.ownsRow_nil _ _ _ _,fun _=>⟨rfl,?_,fun j hj=>by cases hj⟩⟩
   have e:(jT (kg x n n) 0).2=J7 n:=by
    show (List.range (kg x n n).length).map (fun (i:Nat)=>(i:Int))=_
    rw[y8];rfl
   rw[e];exact hU)
 have HB1:=hid hB1;clear hlO hB1 HI
 go_wp2_with fail
 go_loopg [1,5,6,7,8,9,10] n (fun g rk lv ov i _ _ _ wr=>i = .int .i64 (g:Int)∧g≤n∧Hid (rk = .string ⟨(decDigits (x%jw g)).toArray⟩)∧Hid (ZQ x n g w.heap.size lv ov wr)∧Hid (Below w.heap.size w wr))
 case atStart=>exact⟨rfl,Nat.le_refl _,hid (by rw[Nat.mod_eq_of_lt HX.out]),HR0,HB1⟩
 case round=>
  obtain⟨rfl,hgn,hrk,hR,hB⟩:=hrel;obtain⟨k,lb,lc,hk,hO,hL⟩:=hR.out;have hrk2:=hrk.out;subst hrk2;clear hrk hR HR0 HB1
  cases gk with
  | zero=>
   have hkn:k=n:=by omega
   subst hkn
   have hin:¬((0:Int)<((0:Nat):Int)):=by omega
   have HSL:=hid (zc hO (by have:=HN.out;omega));clear hO hL hk
   go_wp2
   go_ret;exact⟨_,rfl,HSL.out,hB.out⟩
  | succ g=>
   obtain⟨hlv,hU,hlt⟩:=hL (Nat.succ_pos g);subst hlv
   have hg30:g≤29:=by have:=HN.out;omega
   have hin:(0:Int)<((g+1:Nat):Int):=by omega
   have hk30:k≤30:=by have:=HN.out;omega
   have f0:=YL g;have hf90:jw g<10^90:=KN (by omega);have hR90:x%jw (g+1)<10^90:=Nat.lt_trans (Nat.mod_lt _ (YL _)) (KN (by omega));have FC:=hid (fun W=>X8 g W (by omega));have DV:=hid (fun W=>Sx (x%jw (g+1)) (jw g) W hR90 hf90 f0);have FL:=hid (fun W=>Tt (x%jw (g+1)) (jw g) W hR90 hf90 f0);have hPA:=D6 x n k g hk
   have hd:(x%jw (g+1))/jw g≤g:=by rw[G3];exact Nat.le_of_lt_succ (Nat.mod_lt _ (Nat.succ_pos g))
   have TI:=hid (fun W=>M6 ((x%jw (g+1))/jw g) W (by omega));have FI:=hid (fun W=>QB ((x%jw (g+1))/jw g) W (by omega));have hle:(x%jw (g+1))/jw g*jw g≤x%jw (g+1):=Nat.div_mul_le_self _ _;have MU:=hid (fun W=>X9 ((x%jw (g+1))/jw g) (jw g) W (qP (K4 (by omega))) (qP hf90));have SB:=hid (fun W=>M5 (x%jw (g+1)) ((x%jw (g+1))/jw g*jw g) W (qP hR90) (qP (Nat.lt_of_le_of_lt hle hR90)) hle);rw[Fs] at SB
   obtain⟨d,hdd⟩:∃d,(x%jw (g+1))/jw g=d:=⟨_,rfl⟩
   rw[hdd] at hPA hd TI FI MU SB FL
   obtain⟨t5,ht5⟩:∃t5,decDigits (x%jw g)=t5:=⟨_,rfl⟩
   rw[ht5] at SB;have HT5:=hid ht5
   -- the two lists behind the round
   have hLl:(jT (kg x n n) k).2.length=g+1:=by
    have:=(Zl (YM x n) k (by rw[y8];omega)).2;rw[y8] at this;omega
   have HP1:Hid ((jT (kg x n n) (k+1)).1=(jT (kg x n n) k).1++[(jT (kg x n n) k).2[d]?.getD 0]):=hid (by rw[D5,hPA])
   have HP2:Hid ((jT (kg x n n) (k+1)).2=(jT (kg x n n) k).2.eraseIdx d):=hid (by
    show (jT (kg x n n) k).2.eraseIdx ((kg x n n)[k]?.getD 0).toNat=_
    rw[hPA])
   generalize (jT (kg x n n) k).1=O at *;generalize (jT (kg x n n) k).2=L at *;generalize decDigits ((x%jw (g+1))/jw g*jw g)=t4 at *;generalize decDigits (d*jw g)=t4b at *;generalize jg (mkRat ((x%jw (g+1):Nat):Int) (jw g))=t3 at *;generalize decDigits (x%jw (g+1))=t1 at *;generalize decDigits (jw g)=t2 at *;have HU:=hid hU;have HO:=hid hO;have HLT:=hid hlt;have HK:=hid hk;have HLL:=hid hLl;clear hU hO hlt hk hLl hPA hdd ht5 hR90 hf90 f0 hle hL
   have hdI:(d:Int)≤(g:Int):=by omega
   go_wp2_with fail
   refine(FC.out _).mono ?_;rintro e w2 ⟨rfl,hBx⟩;have HB2:=hid hBx;clear hBx
   go_wp2_with fail
   refine(DV.out _).mono ?_;rintro e w3 ⟨rfl,hBx⟩;replace HB2:=hid (HB2.out.trans (hBx.mono HB2.out.size));clear hBx
   go_wp2_with fail
   refine(FL.out _).mono ?_;rintro e w4 ⟨rfl,hBx⟩;replace HB2:=hid (HB2.out.trans (hBx.mono HB2.out.size));clear hBx
   go_wp2_with fail
   refine(TI.out _).mono ?_;rintro e w5 ⟨rfl,hBx⟩;replace HB2:=hid (HB2.out.trans (hBx.mono HB2.out.size));clear hBx
   go_wp2_with fail
   refine(FI.out _).mono ?_;rintro e w6 ⟨rfl,hBx⟩;replace HB2:=hid (HB2.out.trans (hBx.mono HB2.out.size));clear hBx
   go_wp2_with fail
   refine(MU.out _).mono ?_;rintro e w7 ⟨rfl,hBx⟩;replace HB2:=hid (HB2.out.trans (hBx.mono HB2.out.size));clear hBx
   go_wp2_with fail
   refine(SB.out _).mono ?_;rintro e w8 ⟨rfl,hBx⟩;replace HB2:=hid (HB2.out.trans (hBx.mono HB2.out.size));clear hBx FC DV FL TI FI MU SB;have HU8:=hid (HU.out.below HB2.out HU.out.lt);have HO8:=hid (kC HO.out HB2.out);have hw8:=HB2.out.size;have hws:=hB.out.size;have hcap1:g+1≤lc:=HU.out.2.1
   have hcap2:lc≤9223372036854775807:=by have:=HU.out.2.2.1;unfold maxLen at this;exact this
   have hck:=(HU8.out.cell (i:=d) (by omega)).trans (kh L d (by have:=HLL.out;omega));generalize hy:L[d]?.getD 0=y at *;clear hy
   go_wp2_with (at_builtin;(refine wpList_append_own _ rfl _ _ 50 rfl w.heap.size 3 i0 (.int .i64 0) 1 8 Tryz.underlying50 hi hz0 hz1 hz2 rfl (by decide) _ _ _ rfl (HO8.out.alloc _) ⟨w8.heap.size,0,none⟩ 1 1 [.int .i64 y] rfl rfl (cell_one_new _ _ _) (fun x hx=>by simp at hx;subst hx;rfl) (by unfold maxLen;omega) (by omega) (by simp;omega) ?_;intro ov' w9 hown' hgrow _))
   have HO9:Hid (w9.ownsRow w.heap.size 3 1 ov' (k+1) (jc (O++[y]))):=hid (by rw[←Vs];exact hown');have HU9:=hid ((HU8.out.alloc (.cells #[.int .i64 y] 3)).grown hgrow (fun e=>by have:=HLT.out _ e;omega));have HB9:=hid (Below.grown ((hB.out.trans (HB2.out.mono hB.out.size)).alloc (by omega) (.cells #[.int .i64 y] 3)) hgrow (by simp;omega) (fun j hj=>(HO8.out.lt _ hj).1));clear hown' hgrow hck HU8 HO8 HB2 HU HO;have HLIT:Hid ((w9.drew.alloc (.cells #[] 3)).ownsRow w9.heap.size 3 1 (.slice (some ⟨w9.heap.size,0,none⟩) 0 0) 0 []):=hid (World.ownsRow_lit (e:=3) (size:=1) (base:=w9.heap.size) w9.drew #[] 0 (Nat.le_refl _) (by unfold maxLen;omega) rfl);have HUL:Hid (Ub (w9.drew.alloc (.cells #[] 3)) lb (g+1) lc (jc L)):=hid (Ub.alloc (w:=w9.drew) HU9.out _);have HN1:Hid (∀j u,(jc ((L.drop 0).take d))[j]? =some u→(w9.drew.alloc (.cells #[] 3)).cell? ((⟨lb,0,none⟩:Addr).add j)=some u):=hid (G0 HUL.out 0 d (by omega));have hlb9:=HU9.out.lt;have hw1:IntKind.i64.wrap ((d:Int)+1)=(d:Int)+1:=IntWalk.i64_in _ (by omega)
   have hw2:(0:Int)≤(d:Int)+1:=by omega
   have hw3:((d:Int)+1).toNat=d+1:=by omega
   have hdc:(d:Int)≤(lc:Int):=by omega
   have hdg:(d:Int)+1≤((g+1:Nat):Int):=by omega
   have hl1:(jc ((L.drop 0).take d)).length=d*1:=by rw[jQ,List.length_take,List.length_drop];have:=HLL.out;omega
   have hl2:(jc ((L.drop (d+1)).take (g-d))).length=(g-d)*1:=by rw[jQ,List.length_take,List.length_drop];have:=HLL.out;omega
   have HL1:=hid hl1;have HL2:=hid hl2;clear hl1 hl2;by_cases hcc:lc=d+1
   ·have HC:=hid hcc
    have HGD:Hid (g-d=0):=hid (by omega);clear hcc
    go_wp2_with fail
    go_region_law (first
     | (refine XL rfl (.tmp 42) (.tmp 45) 50 rfl w9.heap.size 3 i0 (.int .i64 0) 1 8 Tryz.underlying50 hi hz0 hz1 hz2 rfl (by decide) (.slice (some ⟨w9.heap.size,0,none⟩) 0 0) 0 [] (by simp[Act.eval]) HLIT.out ⟨lb,0,none⟩ d lc (jc ((L.drop 0).take d)) (by simp[Act.eval]) HL1.out HN1.out (Xa _) (by unfold maxLen;omega) (by omega) (by simp) ?_;intro v1 w10 ho1 hg1)
     | (refine XL rfl (.tmp 46) (.tmp 50) 50 rfl w9.heap.size 3 i0 (.int .i64 0) 1 8 Tryz.underlying50 hi hz0 hz1 hz2 rfl (by decide) v1 (0+d) ([]++jc ((L.drop 0).take d)) (by simp[Act.eval]) ho1 ⟨lb,0,none⟩ (g-d) (lc-(d+1)) (jc ((L.drop (d+1)).take (g-d))) (by simp[Act.eval,HC.out]) HL2.out (fun j u hu=>by rw[HGD.out] at hu;simp[jc] at hu) (Xa _) (by unfold maxLen;omega) (by omega) (G5 hg1) ?_;intro v2 w11 ho2 hg2))
    have HRN:=hid (G4 HK.out HP1.out HP2.out HO9.out ho1 hg1 ho2 hg2 HLL.out hd);have HBN:=hid (HB9.out.trans ((ZR ho1 hg1 hg2).mono HB9.out.size));clear ho1 hg1 ho2 hg2 HLIT HUL HN1 HU9 HO9
    go_wp2
    go_roundg g
    case rel=>exact⟨by go_num,by omega,hid (by rw[HT5.out]),HRN,HBN⟩
    case measure=>omega
   ·have HC:=hid hcc
    clear hcc
    go_wp2_with fail
    go_region_law (first
     | (refine XL rfl (.tmp 42) (.tmp 45) 50 rfl w9.heap.size 3 i0 (.int .i64 0) 1 8 Tryz.underlying50 hi hz0 hz1 hz2 rfl (by decide) (.slice (some ⟨w9.heap.size,0,none⟩) 0 0) 0 [] (by simp[Act.eval]) HLIT.out ⟨lb,0,none⟩ d lc (jc ((L.drop 0).take d)) (by simp[Act.eval]) HL1.out HN1.out (Xa _) (by unfold maxLen;omega) (by omega) (by simp) ?_;intro v1 w10 ho1 hg1)
     | (refine XL rfl (.tmp 46) (.tmp 50) 50 rfl w9.heap.size 3 i0 (.int .i64 0) 1 8 Tryz.underlying50 hi hz0 hz1 hz2 rfl (by decide) v1 (0+d) ([]++jc ((L.drop 0).take d)) (by simp[Act.eval]) ho1 ⟨lb,d+1,none⟩ (g-d) (lc-(d+1)) (jc ((L.drop (d+1)).take (g-d))) (by simp[Act.eval,HC.out]) HL2.out (G0 (HUL.out.grown hg1 (by intro e;have e2:some w9.heap.size=some lb:=e;injection e2 with e2;omega)) (d+1) (g-d) (by omega)) (Xa _) (by unfold maxLen;omega) (by omega) (G5 hg1) ?_;intro v2 w11 ho2 hg2))
    have HRN:=hid (G4 HK.out HP1.out HP2.out HO9.out ho1 hg1 ho2 hg2 HLL.out hd);have HBN:=hid (HB9.out.trans ((ZR ho1 hg1 hg2).mono HB9.out.size));clear ho1 hg1 ho2 hg2 HLIT HUL HN1 HU9 HO9
    go_wp2
    go_roundg g
    case rel=>exact⟨by go_num,by omega,hid (by rw[HT5.out]),HRN,HBN⟩
    case measure=>omega
