/- Contracts: the greatest common divisor of numbers of which one has at most a word. -/
import Derived.Test.YteagkgagdelklaaGreatDoorZT06
set_option maxRecDepth 100000
set_option maxHeartbeats 4000000
namespace Go.Proofs.YteagkgagdelklaaGreatDoor
open Go.RowKit
theorem Ab (v u:Value) (x y:Nat) (w:World) (h:Nt w v x) (h':Nt w u y) (hw:y<WB) (hle:y≤x) (hf:jp x):
  Calls Tryz.prog 81 #[v,u] w fun e w'=>∃g,e = .returned g∧Nt w' g (Nat.gcd x y)∧Below w.heap.size w w':=by
 obtain⟨A,n,c,hv,_⟩:=h.size_;have ho:=Kb hle;by_cases h0:y=0
 ·subst h0
  rw[Qcg];obtain⟨B,d,hu⟩:=h'.zero_len;have Hh:=Lib.hid h;clear h;have Hh':=Lib.hid h';clear h';subst hv hu;go_enter Tryz.func81,Tryz.ntmps81
  go_wp2_with fail
  refine(xq _ _ _ _ _ Hh.out Hh'.out).mono ?_;rintro e w' ⟨rfl,k,rfl⟩
  go_wp2
  refine wp_loop_rounds 1 ?_;rw[rounds_succ]
  go_wp2
  go_ret;exact⟨_,rfl,Hh.out.drewN k,below_drewN (Below.refl _ _) k⟩
 ·obtain⟨b,off,d,hu,hb,hcell⟩:=h'.one_word (by omega) hw
  have Hh:=Lib.hid h;clear h;have Hh':=Lib.hid h';clear h';subst hv hu;by_cases h1:y=1
  ·subst h1
   rw[QbX];go_enter Tryz.func81,Tryz.ntmps81
   go_wp2_with fail
   refine(xq _ _ _ _ _ Hh.out Hh'.out).mono ?_;rintro e w' ⟨rfl,k,rfl⟩
   go_wp2
   refine wp_loop_rounds 1 ?_;rw[rounds_succ]
   go_wp2_with fail
   refine(qf _ 1 _ (Hh'.out.drewN k)).mono ?_;rintro e w' ⟨rfl,rfl⟩
   go_wp2
   go_ret;exact⟨_,rfl,Hh'.out.drewN k,below_drewN (Below.refl _ _) k⟩
  ·have hd:=Lib.hid (Qat h1)
   have Hf:=Lib.hid hf;clear hf;go_enter Tryz.func81,Tryz.ntmps81
   go_wp2_with fail
   refine(xq _ _ _ _ _ Hh.out Hh'.out).mono ?_;rintro e w' ⟨rfl,k,rfl⟩
   go_wp2
   refine wp_loop_rounds 1 ?_;rw[rounds_succ]
   go_wp2_with fail
   refine(qf _ y _ (Hh'.out.drewN k)).mono ?_;rintro e w' ⟨rfl,rfl⟩;rw[hd.out]
   go_wp2_with fail
   refine(Qp _ x y _ (Hh.out.drewN k) (by omega) hw Hf.out).mono ?_;rintro e w1 ⟨q,rfl,hq,hB⟩;have hcell1:w1.cell? ⟨b,off,none⟩=some (.int .u64 (y:Int)):=(hB.cell (p:=⟨b,off,none⟩) hb).trans hcell
   go_wp2_with fail
   refine(Q7 y (x%y) _).mono ?_;rintro e w2 ⟨rfl,m,rfl⟩
   have hg:Nat.gcd y (x%y)=Nat.gcd x y:=by rw[Qbb y,←Qcp,Qbb]
   rw[hg];have hgw:Nat.gcd x y<WB:=Qax (Qcd x (by omega)) hw
   go_wp2_with fail
   refine(Ka (Nat.gcd x y) _ hgw).mono ?_;rintro e w3 ⟨r,rfl,hr,hB2⟩
   go_wp2
   go_ret;exact⟨r,rfl,hr,(below_drewN (Below.refl _ w) k).trans (hB.trans ((below_drewN (Below.refl _ w1) m).trans hB2 |>.mono hB.size))⟩
theorem Wr (v u:Value) (x y:Nat) (w:World) (h:Nt w v x) (h':Nt w u y) (hw:y<WB) (hle:y<x) (hf:jp x):
  Calls Tryz.prog 81 #[u,v] w fun e w'=>∃g,e = .returned g∧Nt w' g (Nat.gcd x y)∧Below w.heap.size w w':=by
 obtain⟨A,n,c,hv,_⟩:=h.size_;have ho:=Lib.hid (JI hle);by_cases h0:y=0
 ·subst h0
  rw[Qcg];obtain⟨B,d,hu⟩:=h'.zero_len;have Hh:=Lib.hid h;clear h;have Hh':=Lib.hid h';clear h';subst hv hu;go_enter Tryz.func81,Tryz.ntmps81
  go_wp2_with fail
  refine(xq _ _ _ _ _ Hh'.out Hh.out).mono ?_;rintro e w' ⟨rfl,k,rfl⟩;rw[ho.out]
  go_wp2
  refine wp_loop_rounds 1 ?_;rw[rounds_succ]
  go_wp2
  go_ret;exact⟨_,rfl,Hh.out.drewN k,below_drewN (Below.refl _ _) k⟩
 ·obtain⟨b,off,d,hu,hb,hcell⟩:=h'.one_word (by omega) hw
  have Hh:=Lib.hid h;clear h;have Hh':=Lib.hid h';clear h';subst hv hu;by_cases h1:y=1
  ·subst h1
   rw[QbX];go_enter Tryz.func81,Tryz.ntmps81
   go_wp2_with fail
   refine(xq _ _ _ _ _ Hh'.out Hh.out).mono ?_;rintro e w' ⟨rfl,k,rfl⟩;rw[ho.out]
   go_wp2
   refine wp_loop_rounds 1 ?_;rw[rounds_succ]
   go_wp2_with fail
   refine(qf _ 1 _ (Hh'.out.drewN k)).mono ?_;rintro e w' ⟨rfl,rfl⟩
   go_wp2
   go_ret;exact⟨_,rfl,Hh'.out.drewN k,below_drewN (Below.refl _ _) k⟩
  ·have hd:=Lib.hid (Qat h1)
   have Hf:=Lib.hid hf;clear hf;go_enter Tryz.func81,Tryz.ntmps81
   go_wp2_with fail
   refine(xq _ _ _ _ _ Hh'.out Hh.out).mono ?_;rintro e w' ⟨rfl,k,rfl⟩;rw[ho.out]
   go_wp2
   refine wp_loop_rounds 1 ?_;rw[rounds_succ]
   go_wp2_with fail
   refine(qf _ y _ (Hh'.out.drewN k)).mono ?_;rintro e w' ⟨rfl,rfl⟩;rw[hd.out]
   go_wp2_with fail
   refine(Qp _ x y _ (Hh.out.drewN k) (by omega) hw Hf.out).mono ?_;rintro e w1 ⟨q,rfl,hq,hB⟩;have hcell1:w1.cell? ⟨b,off,none⟩=some (.int .u64 (y:Int)):=(hB.cell (p:=⟨b,off,none⟩) hb).trans hcell
   go_wp2_with fail
   refine(Q7 y (x%y) _).mono ?_;rintro e w2 ⟨rfl,m,rfl⟩
   have hg:Nat.gcd y (x%y)=Nat.gcd x y:=by rw[Qbb y,←Qcp,Qbb]
   rw[hg];have hgw:Nat.gcd x y<WB:=Qax (Qcd x (by omega)) hw
   go_wp2_with fail
   refine(Ka (Nat.gcd x y) _ hgw).mono ?_;rintro e w3 ⟨r,rfl,hr,hB2⟩
   go_wp2
   go_ret;exact⟨r,rfl,hr,(below_drewN (Below.refl _ w) k).trans (hB.trans ((below_drewN (Below.refl _ w1) m).trans hB2 |>.mono hB.size))⟩
theorem JC (v u:Value) (x y:Nat) (w:World) (h:Nt w v x) (h':Nt w u y) (hf:jp x) (hg:jp y):
  Calls Tryz.prog 81 #[v,u] w fun e w'=>∃g,e = .returned g∧Nt w' g (Nat.gcd x y)∧Below w.heap.size w w':=by
 rcases Qae y WB with hy | hy
 ·rcases Qae x y with hxy | hxy
  ·rw[Qbb]
   exact Wr u v y x w h' h (by omega) hxy hg
  ·exact Ab v u x y w h h' hy hxy hf
 ·rcases Qae x WB with hx | hx
  ·rw[Qbb]
   exact Wr u v y x w h' h hx (by omega) hg
  ·exact(hf.deep hx).gcd v u x y w h h' hx hy hf.big hg.big
end Go.Proofs.YteagkgagdelklaaGreatDoor
namespace Go.Proofs.YteagkgagdelklaaGreatDoor
open Go.RowKit Go.Lib
def ql (code:Int) (w:World) (e:Ending) (w':World):Prop:=e = .returned (.tuple #[kd,.int .i64 code])∧Below w.heap.size w w'
def JH (q:Rat) (w:World) (e:Ending) (w':World):Prop:=∃v,e = .returned (.tuple #[v,.int .i64 0])∧Rt w' v q∧Below w.heap.size w w'
theorem FZ (l dg a b:List UInt8) (w:World) (h1:hasPrefix l [45]=true) (h2:trimPrefix l [45]=dg) (h3:cut dg [47]=(a,b,true)) (hdl:dg.length<4294967281) (hal:a.length<4294967281) (hG:jK w)
  (hn:¬jF a):Calls Tryz.prog 36 #[.string ⟨l.toArray⟩] w (ql 1 w):=by
 go_enter Tryz.func36,Tryz.ntmps36
 go_wp2_with fail
 refine(qi l dg true _ h1 h2).mono ?_;rintro e w' ⟨rfl,rfl⟩
 go_wp2_with fail
 refine(qj dg a b true _ h3 hdl (hG.below ((Below.refl _ _).alloc (Nat.le_refl _) _))).mono ?_;rintro e w' ⟨rfl,n,rfl⟩
 go_wp2_with fail
 refine(KI a _ hn hal).mono ?_;rintro e w1 ⟨rfl,hB1⟩
 have hO1:=(((ja.make w 69 [.bool false,.slice none 0 0,.slice none 0 0]).drewN n).below hB1 (by simp))
 have hW1:Below w.heap.size w w1:=(below_drewN ((Below.refl w.heap.size w).alloc (Nat.le_refl _) _) n).trans (hB1.mono (by simp));obtain⟨c0,c1,c2,f0,f1,f2⟩:=hO1.three
 go_wp2
 exact bodyPost_ret (v:= .tuple #[kd,.int .i64 1]) (by simp[results,Tryz.results36,go_sem,c0,c1,c2,kd]) rfl ⟨rfl,((hW1.setCell (by simp) _).setCell (by simp) _).setCell (by simp) _⟩
theorem F2 (l dg a b:List UInt8) (w:World) (h1:hasPrefix l [45]=true) (h2:trimPrefix l [45]=dg) (h3:cut dg [47]=(a,b,false)) (hdl:dg.length<4294967281) (hal:a.length<4294967281) (hG:jK w)
  (hn:¬jF a):Calls Tryz.prog 36 #[.string ⟨l.toArray⟩] w (ql 1 w):=by
 go_enter Tryz.func36,Tryz.ntmps36
 go_wp2_with fail
 refine(qi l dg true _ h1 h2).mono ?_;rintro e w' ⟨rfl,rfl⟩
 go_wp2_with fail
 refine(qj dg a b false _ h3 hdl (hG.below ((Below.refl _ _).alloc (Nat.le_refl _) _))).mono ?_;rintro e w' ⟨rfl,n,rfl⟩
 go_wp2_with fail
 refine(KI a _ hn hal).mono ?_;rintro e w1 ⟨rfl,hB1⟩
 have hO1:=(((ja.make w 69 [.bool false,.slice none 0 0,.slice none 0 0]).drewN n).below hB1 (by simp))
 have hW1:Below w.heap.size w w1:=(below_drewN ((Below.refl w.heap.size w).alloc (Nat.le_refl _) _) n).trans (hB1.mono (by simp));obtain⟨c0,c1,c2,f0,f1,f2⟩:=hO1.three
 go_wp2
 exact bodyPost_ret (v:= .tuple #[kd,.int .i64 1]) (by simp[results,Tryz.results36,go_sem,c0,c1,c2,kd]) rfl ⟨rfl,((hW1.setCell (by simp) _).setCell (by simp) _).setCell (by simp) _⟩
theorem F4 (l dg a b:List UInt8) (w:World) (h1:hasPrefix l [45]=false) (h2:trimPrefix l [45]=dg) (h3:cut dg [47]=(a,b,true)) (hdl:dg.length<4294967281) (hal:a.length<4294967281) (hG:jK w)
  (hn:¬jF a):Calls Tryz.prog 36 #[.string ⟨l.toArray⟩] w (ql 1 w):=by
 go_enter Tryz.func36,Tryz.ntmps36
 go_wp2_with fail
 refine(qi l dg false _ h1 h2).mono ?_;rintro e w' ⟨rfl,rfl⟩
 go_wp2_with fail
 refine(qj dg a b true _ h3 hdl (hG.below ((Below.refl _ _).alloc (Nat.le_refl _) _))).mono ?_;rintro e w' ⟨rfl,n,rfl⟩
 go_wp2_with fail
 refine(KI a _ hn hal).mono ?_;rintro e w1 ⟨rfl,hB1⟩
 have hO1:=(((ja.make w 69 [.bool false,.slice none 0 0,.slice none 0 0]).drewN n).below hB1 (by simp))
 have hW1:Below w.heap.size w w1:=(below_drewN ((Below.refl w.heap.size w).alloc (Nat.le_refl _) _) n).trans (hB1.mono (by simp));obtain⟨c0,c1,c2,f0,f1,f2⟩:=hO1.three
 go_wp2
 exact bodyPost_ret (v:= .tuple #[kd,.int .i64 1]) (by simp[results,Tryz.results36,go_sem,c0,c1,c2,kd]) rfl ⟨rfl,((hW1.setCell (by simp) _).setCell (by simp) _).setCell (by simp) _⟩
theorem F5 (l dg a b:List UInt8) (w:World) (h1:hasPrefix l [45]=false) (h2:trimPrefix l [45]=dg) (h3:cut dg [47]=(a,b,false)) (hdl:dg.length<4294967281) (hal:a.length<4294967281) (hG:jK w)
  (hn:¬jF a):Calls Tryz.prog 36 #[.string ⟨l.toArray⟩] w (ql 1 w):=by
 go_enter Tryz.func36,Tryz.ntmps36
 go_wp2_with fail
 refine(qi l dg false _ h1 h2).mono ?_;rintro e w' ⟨rfl,rfl⟩
 go_wp2_with fail
 refine(qj dg a b false _ h3 hdl (hG.below ((Below.refl _ _).alloc (Nat.le_refl _) _))).mono ?_;rintro e w' ⟨rfl,n,rfl⟩
 go_wp2_with fail
 refine(KI a _ hn hal).mono ?_;rintro e w1 ⟨rfl,hB1⟩
 have hO1:=(((ja.make w 69 [.bool false,.slice none 0 0,.slice none 0 0]).drewN n).below hB1 (by simp))
 have hW1:Below w.heap.size w w1:=(below_drewN ((Below.refl w.heap.size w).alloc (Nat.le_refl _) _) n).trans (hB1.mono (by simp));obtain⟨c0,c1,c2,f0,f1,f2⟩:=hO1.three
 go_wp2
 exact bodyPost_ret (v:= .tuple #[kd,.int .i64 1]) (by simp[results,Tryz.results36,go_sem,c0,c1,c2,kd]) rfl ⟨rfl,((hW1.setCell (by simp) _).setCell (by simp) _).setCell (by simp) _⟩
theorem Ll (l dg a b:List UInt8) (w:World) (h1:hasPrefix l [45]=true) (h2:trimPrefix l [45]=dg) (h3:cut dg [47]=(a,b,true)) (hdl:dg.length<4294967281) (hal:a.length<4294967281) (hG:jK w)
  (hn:jF a) (hz:(a==[48])=true):Calls Tryz.prog 36 #[.string ⟨l.toArray⟩] w (ql 1 w):=by
 go_enter Tryz.func36,Tryz.ntmps36
 go_wp2_with fail
 refine(qi l dg true _ h1 h2).mono ?_;rintro e w' ⟨rfl,rfl⟩
 go_wp2_with fail
 refine(qj dg a b true _ h3 hdl (hG.below ((Below.refl _ _).alloc (Nat.le_refl _) _))).mono ?_;rintro e w' ⟨rfl,n,rfl⟩
 go_wp2_with fail
 refine(kA a _ hn hal).mono ?_;rintro e w1 ⟨rfl,hB1⟩
 have hO1:=(((ja.make w 69 [.bool false,.slice none 0 0,.slice none 0 0]).drewN n).below hB1 (by simp))
 have hW1:Below w.heap.size w w1:=(below_drewN ((Below.refl w.heap.size w).alloc (Nat.le_refl _) _) n).trans (hB1.mono (by simp));obtain⟨c0,c1,c2,f0,f1,f2⟩:=hO1.three
 go_wp2
 exact bodyPost_ret (v:= .tuple #[kd,.int .i64 1]) (by simp[results,Tryz.results36,go_sem,c0,c1,c2,kd]) rfl ⟨rfl,((hW1.setCell (by simp) _).setCell (by simp) _).setCell (by simp) _⟩
theorem Lm (l dg a b:List UInt8) (w:World) (h1:hasPrefix l [45]=true) (h2:trimPrefix l [45]=dg) (h3:cut dg [47]=(a,b,false)) (hdl:dg.length<4294967281) (hal:a.length<4294967281) (hG:jK w)
  (hn:jF a) (hz:(a==[48])=true):Calls Tryz.prog 36 #[.string ⟨l.toArray⟩] w (ql 1 w):=by
 go_enter Tryz.func36,Tryz.ntmps36
 go_wp2_with fail
 refine(qi l dg true _ h1 h2).mono ?_;rintro e w' ⟨rfl,rfl⟩
 go_wp2_with fail
 refine(qj dg a b false _ h3 hdl (hG.below ((Below.refl _ _).alloc (Nat.le_refl _) _))).mono ?_;rintro e w' ⟨rfl,n,rfl⟩
 go_wp2_with fail
 refine(kA a _ hn hal).mono ?_;rintro e w1 ⟨rfl,hB1⟩
 have hO1:=(((ja.make w 69 [.bool false,.slice none 0 0,.slice none 0 0]).drewN n).below hB1 (by simp))
 have hW1:Below w.heap.size w w1:=(below_drewN ((Below.refl w.heap.size w).alloc (Nat.le_refl _) _) n).trans (hB1.mono (by simp));obtain⟨c0,c1,c2,f0,f1,f2⟩:=hO1.three
 go_wp2
 exact bodyPost_ret (v:= .tuple #[kd,.int .i64 1]) (by simp[results,Tryz.results36,go_sem,c0,c1,c2,kd]) rfl ⟨rfl,((hW1.setCell (by simp) _).setCell (by simp) _).setCell (by simp) _⟩
theorem FW (l dg a b:List UInt8) (w:World) (h1:hasPrefix l [45]=true) (h2:trimPrefix l [45]=dg) (h3:cut dg [47]=(a,b,true)) (hdl:dg.length<4294967281) (hal:a.length<4294967281) (hbl:b.length<4294967281) (hG:jK w)
  (hn:jF a) (hz:(a==[48])=false) (hd:¬jF b):Calls Tryz.prog 36 #[.string ⟨l.toArray⟩] w (ql 1 w):=by
 go_enter Tryz.func36,Tryz.ntmps36
 go_wp2_with fail
 refine(qi l dg true _ h1 h2).mono ?_;rintro e w' ⟨rfl,rfl⟩
 go_wp2_with fail
 refine(qj dg a b true _ h3 hdl (hG.below ((Below.refl _ _).alloc (Nat.le_refl _) _))).mono ?_;rintro e w' ⟨rfl,n,rfl⟩
 go_wp2_with fail
 refine(kA a _ hn hal).mono ?_;rintro e w1 ⟨rfl,hB1⟩
 have hO1:=(((ja.make w 69 [.bool false,.slice none 0 0,.slice none 0 0]).drewN n).below hB1 (by simp))
 have hW1:Below w.heap.size w w1:=(below_drewN ((Below.refl w.heap.size w).alloc (Nat.le_refl _) _) n).trans (hB1.mono (by simp))
 go_wp2_with fail
 refine(KI b _ hd hbl).mono ?_;rintro e w2 ⟨rfl,hB2⟩;replace hO1:=hO1.below hB2 (hO1.lt);replace hW1:=hW1.trans (hB2.mono hW1.size);obtain⟨c0,c1,c2,f0,f1,f2⟩:=hO1.three
 go_wp2
 exact bodyPost_ret (v:= .tuple #[kd,.int .i64 1]) (by simp[results,Tryz.results36,go_sem,c0,c1,c2,kd]) rfl ⟨rfl,((hW1.setCell (by simp) _).setCell (by simp) _).setCell (by simp) _⟩
theorem F7 (l dg a b:List UInt8) (w:World) (h1:hasPrefix l [45]=true) (h2:trimPrefix l [45]=dg) (h3:cut dg [47]=(a,b,true)) (hdl:dg.length<4294967281) (hal:a.length<4294967281) (hbl:b.length<4294967281) (hG:jK w)
  (hn:jF a) (hz:(a==[48])=false) (hd:jF b) (hb:(b==[48])=true):Calls Tryz.prog 36 #[.string ⟨l.toArray⟩] w (ql 1 w):=by
 go_enter Tryz.func36,Tryz.ntmps36
 go_wp2_with fail
 refine(qi l dg true _ h1 h2).mono ?_;rintro e w' ⟨rfl,rfl⟩
 go_wp2_with fail
 refine(qj dg a b true _ h3 hdl (hG.below ((Below.refl _ _).alloc (Nat.le_refl _) _))).mono ?_;rintro e w' ⟨rfl,n,rfl⟩
 go_wp2_with fail
 refine(kA a _ hn hal).mono ?_;rintro e w1 ⟨rfl,hB1⟩
 have hO1:=(((ja.make w 69 [.bool false,.slice none 0 0,.slice none 0 0]).drewN n).below hB1 (by simp))
 have hW1:Below w.heap.size w w1:=(below_drewN ((Below.refl w.heap.size w).alloc (Nat.le_refl _) _) n).trans (hB1.mono (by simp))
 go_wp2_with fail
 refine(kA b _ hd hbl).mono ?_;rintro e w2 ⟨rfl,hB2⟩;replace hO1:=hO1.below hB2 (hO1.lt);replace hW1:=hW1.trans (hB2.mono hW1.size);obtain⟨c0,c1,c2,f0,f1,f2⟩:=hO1.three
 go_wp2
 exact bodyPost_ret (v:= .tuple #[kd,.int .i64 1]) (by simp[results,Tryz.results36,go_sem,c0,c1,c2,kd]) rfl ⟨rfl,((hW1.setCell (by simp) _).setCell (by simp) _).setCell (by simp) _⟩
theorem F9 (l dg a b:List UInt8) (w:World) (h1:hasPrefix l [45]=true) (h2:trimPrefix l [45]=dg) (h3:cut dg [47]=(a,b,true)) (hdl:dg.length<4294967281) (hal:a.length<4294967281) (hbl:b.length<4294967281) (hG:jK w)
  (hn:jF a) (hz:(a==[48])=false) (hd:jF b) (hb0:(b==[48])=false) (hb:(b==[49])=true):Calls Tryz.prog 36 #[.string ⟨l.toArray⟩] w (ql 1 w):=by
 go_enter Tryz.func36,Tryz.ntmps36
 go_wp2_with fail
 refine(qi l dg true _ h1 h2).mono ?_;rintro e w' ⟨rfl,rfl⟩
 go_wp2_with fail
 refine(qj dg a b true _ h3 hdl (hG.below ((Below.refl _ _).alloc (Nat.le_refl _) _))).mono ?_;rintro e w' ⟨rfl,n,rfl⟩
 go_wp2_with fail
 refine(kA a _ hn hal).mono ?_;rintro e w1 ⟨rfl,hB1⟩
 have hO1:=(((ja.make w 69 [.bool false,.slice none 0 0,.slice none 0 0]).drewN n).below hB1 (by simp))
 have hW1:Below w.heap.size w w1:=(below_drewN ((Below.refl w.heap.size w).alloc (Nat.le_refl _) _) n).trans (hB1.mono (by simp))
 go_wp2_with fail
 refine(kA b _ hd hbl).mono ?_;rintro e w2 ⟨rfl,hB2⟩;replace hO1:=hO1.below hB2 (hO1.lt);replace hW1:=hW1.trans (hB2.mono hW1.size);obtain⟨c0,c1,c2,f0,f1,f2⟩:=hO1.three
 go_wp2
 exact bodyPost_ret (v:= .tuple #[kd,.int .i64 1]) (by simp[results,Tryz.results36,go_sem,c0,c1,c2,kd]) rfl ⟨rfl,((hW1.setCell (by simp) _).setCell (by simp) _).setCell (by simp) _⟩
theorem Lg (l dg a b:List UInt8) (w:World) (h1:hasPrefix l [45]=true) (h2:trimPrefix l [45]=dg) (h3:cut dg [47]=(a,b,true)) (hdl:dg.length<4294967281) (hal:a.length<4294967281) (hbl:b.length<4294967281) (hG:jK w)
  (hn:jF a) (hz:(a==[48])=false) (hd:jF b) (hb0:(b==[48])=false) (hb1:(b==[49])=false) (hlen:600<a.length):Calls Tryz.prog 36 #[.string ⟨l.toArray⟩] w (ql 4 w):=by
 go_enter Tryz.func36,Tryz.ntmps36
 go_wp2_with fail
 refine(qi l dg true _ h1 h2).mono ?_;rintro e w' ⟨rfl,rfl⟩
 go_wp2_with fail
 refine(qj dg a b true _ h3 hdl (hG.below ((Below.refl _ _).alloc (Nat.le_refl _) _))).mono ?_;rintro e w' ⟨rfl,n,rfl⟩
 go_wp2_with fail
 refine(kA a _ hn hal).mono ?_;rintro e w1 ⟨rfl,hB1⟩
 have hO1:=(((ja.make w 69 [.bool false,.slice none 0 0,.slice none 0 0]).drewN n).below hB1 (by simp))
 have hW1:Below w.heap.size w w1:=(below_drewN ((Below.refl w.heap.size w).alloc (Nat.le_refl _) _) n).trans (hB1.mono (by simp))
 go_wp2_with fail
 refine(kA b _ hd hbl).mono ?_;rintro e w2 ⟨rfl,hB2⟩;replace hO1:=hO1.below hB2 (hO1.lt);replace hW1:=hW1.trans (hB2.mono hW1.size);obtain⟨c0,c1,c2,f0,f1,f2⟩:=hO1.three
 go_wp2
 exact bodyPost_ret (v:= .tuple #[kd,.int .i64 4]) (by simp[results,Tryz.results36,go_sem,c0,c1,c2,kd]) rfl ⟨rfl,((hW1.setCell (by simp) _).setCell (by simp) _).setCell (by simp) _⟩
theorem Ld (l dg a b:List UInt8) (w:World) (h1:hasPrefix l [45]=true) (h2:trimPrefix l [45]=dg) (h3:cut dg [47]=(a,b,true)) (hdl:dg.length<4294967281) (hal:a.length<4294967281) (hbl:b.length<4294967281) (hG:jK w)
  (hn:jF a) (hz:(a==[48])=false) (hd:jF b) (hb0:(b==[48])=false) (hb1:(b==[49])=false) (hlen:a.length≤600) (hlen2:600<b.length):Calls Tryz.prog 36 #[.string ⟨l.toArray⟩] w (ql 4 w):=by
 go_enter Tryz.func36,Tryz.ntmps36
 go_wp2_with fail
 refine(qi l dg true _ h1 h2).mono ?_;rintro e w' ⟨rfl,rfl⟩
 go_wp2_with fail
 refine(qj dg a b true _ h3 hdl (hG.below ((Below.refl _ _).alloc (Nat.le_refl _) _))).mono ?_;rintro e w' ⟨rfl,n,rfl⟩
 go_wp2_with fail
 refine(kA a _ hn hal).mono ?_;rintro e w1 ⟨rfl,hB1⟩
 have hO1:=(((ja.make w 69 [.bool false,.slice none 0 0,.slice none 0 0]).drewN n).below hB1 (by simp))
 have hW1:Below w.heap.size w w1:=(below_drewN ((Below.refl w.heap.size w).alloc (Nat.le_refl _) _) n).trans (hB1.mono (by simp))
 go_wp2_with fail
 refine(kA b _ hd hbl).mono ?_;rintro e w2 ⟨rfl,hB2⟩;replace hO1:=hO1.below hB2 (hO1.lt);replace hW1:=hW1.trans (hB2.mono hW1.size);obtain⟨c0,c1,c2,f0,f1,f2⟩:=hO1.three
 go_wp2
 exact bodyPost_ret (v:= .tuple #[kd,.int .i64 4]) (by simp[results,Tryz.results36,go_sem,c0,c1,c2,kd]) rfl ⟨rfl,((hW1.setCell (by simp) _).setCell (by simp) _).setCell (by simp) _⟩
theorem Lj (l dg a b:List UInt8) (w:World) (h1:hasPrefix l [45]=true) (h2:trimPrefix l [45]=dg) (h3:cut dg [47]=(a,b,false)) (hdl:dg.length<4294967281) (hal:a.length<4294967281) (hG:jK w)
  (hn:jF a) (hz:(a==[48])=false) (hlen:600<a.length):Calls Tryz.prog 36 #[.string ⟨l.toArray⟩] w (ql 4 w):=by
 go_enter Tryz.func36,Tryz.ntmps36
 go_wp2_with fail
 refine(qi l dg true _ h1 h2).mono ?_;rintro e w' ⟨rfl,rfl⟩
 go_wp2_with fail
 refine(qj dg a b false _ h3 hdl (hG.below ((Below.refl _ _).alloc (Nat.le_refl _) _))).mono ?_;rintro e w' ⟨rfl,n,rfl⟩
 go_wp2_with fail
 refine(kA a _ hn hal).mono ?_;rintro e w1 ⟨rfl,hB1⟩
 have hO1:=(((ja.make w 69 [.bool false,.slice none 0 0,.slice none 0 0]).drewN n).below hB1 (by simp))
 have hW1:Below w.heap.size w w1:=(below_drewN ((Below.refl w.heap.size w).alloc (Nat.le_refl _) _) n).trans (hB1.mono (by simp));obtain⟨c0,c1,c2,f0,f1,f2⟩:=hO1.three
 go_wp2
 exact bodyPost_ret (v:= .tuple #[kd,.int .i64 4]) (by simp[results,Tryz.results36,go_sem,c0,c1,c2,kd]) rfl ⟨rfl,((hW1.setCell (by simp) _).setCell (by simp) _).setCell (by simp) _⟩
theorem FY (l dg a b:List UInt8) (w:World) (h1:hasPrefix l [45]=false) (h2:trimPrefix l [45]=dg) (h3:cut dg [47]=(a,b,true)) (hdl:dg.length<4294967281) (hal:a.length<4294967281) (hbl:b.length<4294967281) (hG:jK w)
  (hn:jF a) (hd:¬jF b):Calls Tryz.prog 36 #[.string ⟨l.toArray⟩] w (ql 1 w):=by
 go_enter Tryz.func36,Tryz.ntmps36
 go_wp2_with fail
 refine(qi l dg false _ h1 h2).mono ?_;rintro e w' ⟨rfl,rfl⟩
 go_wp2_with fail
 refine(qj dg a b true _ h3 hdl (hG.below ((Below.refl _ _).alloc (Nat.le_refl _) _))).mono ?_;rintro e w' ⟨rfl,n,rfl⟩
 go_wp2_with fail
 refine(kA a _ hn hal).mono ?_;rintro e w1 ⟨rfl,hB1⟩
 have hO1:=(((ja.make w 69 [.bool false,.slice none 0 0,.slice none 0 0]).drewN n).below hB1 (by simp))
 have hW1:Below w.heap.size w w1:=(below_drewN ((Below.refl w.heap.size w).alloc (Nat.le_refl _) _) n).trans (hB1.mono (by simp))
 go_wp2_with fail
 refine(KI b _ hd hbl).mono ?_;rintro e w2 ⟨rfl,hB2⟩;replace hO1:=hO1.below hB2 (hO1.lt);replace hW1:=hW1.trans (hB2.mono hW1.size);obtain⟨c0,c1,c2,f0,f1,f2⟩:=hO1.three
 go_wp2
 exact bodyPost_ret (v:= .tuple #[kd,.int .i64 1]) (by simp[results,Tryz.results36,go_sem,c0,c1,c2,kd]) rfl ⟨rfl,((hW1.setCell (by simp) _).setCell (by simp) _).setCell (by simp) _⟩
theorem F8 (l dg a b:List UInt8) (w:World) (h1:hasPrefix l [45]=false) (h2:trimPrefix l [45]=dg) (h3:cut dg [47]=(a,b,true)) (hdl:dg.length<4294967281) (hal:a.length<4294967281) (hbl:b.length<4294967281) (hG:jK w)
  (hn:jF a) (hd:jF b) (hb:(b==[48])=true):Calls Tryz.prog 36 #[.string ⟨l.toArray⟩] w (ql 1 w):=by
 go_enter Tryz.func36,Tryz.ntmps36
 go_wp2_with fail
 refine(qi l dg false _ h1 h2).mono ?_;rintro e w' ⟨rfl,rfl⟩
 go_wp2_with fail
 refine(qj dg a b true _ h3 hdl (hG.below ((Below.refl _ _).alloc (Nat.le_refl _) _))).mono ?_;rintro e w' ⟨rfl,n,rfl⟩
 go_wp2_with fail
 refine(kA a _ hn hal).mono ?_;rintro e w1 ⟨rfl,hB1⟩
 have hO1:=(((ja.make w 69 [.bool false,.slice none 0 0,.slice none 0 0]).drewN n).below hB1 (by simp))
 have hW1:Below w.heap.size w w1:=(below_drewN ((Below.refl w.heap.size w).alloc (Nat.le_refl _) _) n).trans (hB1.mono (by simp))
 go_wp2_with fail
 refine(kA b _ hd hbl).mono ?_;rintro e w2 ⟨rfl,hB2⟩;replace hO1:=hO1.below hB2 (hO1.lt);replace hW1:=hW1.trans (hB2.mono hW1.size);obtain⟨c0,c1,c2,f0,f1,f2⟩:=hO1.three
 go_wp2
 exact bodyPost_ret (v:= .tuple #[kd,.int .i64 1]) (by simp[results,Tryz.results36,go_sem,c0,c1,c2,kd]) rfl ⟨rfl,((hW1.setCell (by simp) _).setCell (by simp) _).setCell (by simp) _⟩
theorem La (l dg a b:List UInt8) (w:World) (h1:hasPrefix l [45]=false) (h2:trimPrefix l [45]=dg) (h3:cut dg [47]=(a,b,true)) (hdl:dg.length<4294967281) (hal:a.length<4294967281) (hbl:b.length<4294967281) (hG:jK w)
  (hn:jF a) (hd:jF b) (hb0:(b==[48])=false) (hb:(b==[49])=true):Calls Tryz.prog 36 #[.string ⟨l.toArray⟩] w (ql 1 w):=by
 go_enter Tryz.func36,Tryz.ntmps36
 go_wp2_with fail
 refine(qi l dg false _ h1 h2).mono ?_;rintro e w' ⟨rfl,rfl⟩
 go_wp2_with fail
 refine(qj dg a b true _ h3 hdl (hG.below ((Below.refl _ _).alloc (Nat.le_refl _) _))).mono ?_;rintro e w' ⟨rfl,n,rfl⟩
 go_wp2_with fail
 refine(kA a _ hn hal).mono ?_;rintro e w1 ⟨rfl,hB1⟩
 have hO1:=(((ja.make w 69 [.bool false,.slice none 0 0,.slice none 0 0]).drewN n).below hB1 (by simp))
 have hW1:Below w.heap.size w w1:=(below_drewN ((Below.refl w.heap.size w).alloc (Nat.le_refl _) _) n).trans (hB1.mono (by simp))
 go_wp2_with fail
 refine(kA b _ hd hbl).mono ?_;rintro e w2 ⟨rfl,hB2⟩;replace hO1:=hO1.below hB2 (hO1.lt);replace hW1:=hW1.trans (hB2.mono hW1.size);obtain⟨c0,c1,c2,f0,f1,f2⟩:=hO1.three
 go_wp2
 exact bodyPost_ret (v:= .tuple #[kd,.int .i64 1]) (by simp[results,Tryz.results36,go_sem,c0,c1,c2,kd]) rfl ⟨rfl,((hW1.setCell (by simp) _).setCell (by simp) _).setCell (by simp) _⟩
theorem Li (l dg a b:List UInt8) (w:World) (h1:hasPrefix l [45]=false) (h2:trimPrefix l [45]=dg) (h3:cut dg [47]=(a,b,true)) (hdl:dg.length<4294967281) (hal:a.length<4294967281) (hbl:b.length<4294967281) (hG:jK w)
  (hn:jF a) (hd:jF b) (hb0:(b==[48])=false) (hb1:(b==[49])=false) (hlen:600<a.length):Calls Tryz.prog 36 #[.string ⟨l.toArray⟩] w (ql 4 w):=by
 go_enter Tryz.func36,Tryz.ntmps36
 go_wp2_with fail
 refine(qi l dg false _ h1 h2).mono ?_;rintro e w' ⟨rfl,rfl⟩
 go_wp2_with fail
 refine(qj dg a b true _ h3 hdl (hG.below ((Below.refl _ _).alloc (Nat.le_refl _) _))).mono ?_;rintro e w' ⟨rfl,n,rfl⟩
 go_wp2_with fail
 refine(kA a _ hn hal).mono ?_;rintro e w1 ⟨rfl,hB1⟩
 have hO1:=(((ja.make w 69 [.bool false,.slice none 0 0,.slice none 0 0]).drewN n).below hB1 (by simp))
 have hW1:Below w.heap.size w w1:=(below_drewN ((Below.refl w.heap.size w).alloc (Nat.le_refl _) _) n).trans (hB1.mono (by simp))
 go_wp2_with fail
 refine(kA b _ hd hbl).mono ?_;rintro e w2 ⟨rfl,hB2⟩;replace hO1:=hO1.below hB2 (hO1.lt);replace hW1:=hW1.trans (hB2.mono hW1.size);obtain⟨c0,c1,c2,f0,f1,f2⟩:=hO1.three
 go_wp2
 exact bodyPost_ret (v:= .tuple #[kd,.int .i64 4]) (by simp[results,Tryz.results36,go_sem,c0,c1,c2,kd]) rfl ⟨rfl,((hW1.setCell (by simp) _).setCell (by simp) _).setCell (by simp) _⟩
theorem Lf (l dg a b:List UInt8) (w:World) (h1:hasPrefix l [45]=false) (h2:trimPrefix l [45]=dg) (h3:cut dg [47]=(a,b,true)) (hdl:dg.length<4294967281) (hal:a.length<4294967281) (hbl:b.length<4294967281) (hG:jK w)
  (hn:jF a) (hd:jF b) (hb0:(b==[48])=false) (hb1:(b==[49])=false) (hlen:a.length≤600) (hlen2:600<b.length):Calls Tryz.prog 36 #[.string ⟨l.toArray⟩] w (ql 4 w):=by
 go_enter Tryz.func36,Tryz.ntmps36
 go_wp2_with fail
 refine(qi l dg false _ h1 h2).mono ?_;rintro e w' ⟨rfl,rfl⟩
 go_wp2_with fail
 refine(qj dg a b true _ h3 hdl (hG.below ((Below.refl _ _).alloc (Nat.le_refl _) _))).mono ?_;rintro e w' ⟨rfl,n,rfl⟩
 go_wp2_with fail
 refine(kA a _ hn hal).mono ?_;rintro e w1 ⟨rfl,hB1⟩
 have hO1:=(((ja.make w 69 [.bool false,.slice none 0 0,.slice none 0 0]).drewN n).below hB1 (by simp))
 have hW1:Below w.heap.size w w1:=(below_drewN ((Below.refl w.heap.size w).alloc (Nat.le_refl _) _) n).trans (hB1.mono (by simp))
 go_wp2_with fail
 refine(kA b _ hd hbl).mono ?_;rintro e w2 ⟨rfl,hB2⟩;replace hO1:=hO1.below hB2 (hO1.lt);replace hW1:=hW1.trans (hB2.mono hW1.size);obtain⟨c0,c1,c2,f0,f1,f2⟩:=hO1.three
 go_wp2
 exact bodyPost_ret (v:= .tuple #[kd,.int .i64 4]) (by simp[results,Tryz.results36,go_sem,c0,c1,c2,kd]) rfl ⟨rfl,((hW1.setCell (by simp) _).setCell (by simp) _).setCell (by simp) _⟩
theorem Lk (l dg a b:List UInt8) (w:World) (h1:hasPrefix l [45]=false) (h2:trimPrefix l [45]=dg) (h3:cut dg [47]=(a,b,false)) (hdl:dg.length<4294967281) (hal:a.length<4294967281) (hG:jK w)
  (hn:jF a) (hlen:600<a.length):Calls Tryz.prog 36 #[.string ⟨l.toArray⟩] w (ql 4 w):=by
 go_enter Tryz.func36,Tryz.ntmps36
 go_wp2_with fail
 refine(qi l dg false _ h1 h2).mono ?_;rintro e w' ⟨rfl,rfl⟩
 go_wp2_with fail
 refine(qj dg a b false _ h3 hdl (hG.below ((Below.refl _ _).alloc (Nat.le_refl _) _))).mono ?_;rintro e w' ⟨rfl,n,rfl⟩
 go_wp2_with fail
 refine(kA a _ hn hal).mono ?_;rintro e w1 ⟨rfl,hB1⟩
 have hO1:=(((ja.make w 69 [.bool false,.slice none 0 0,.slice none 0 0]).drewN n).below hB1 (by simp))
 have hW1:Below w.heap.size w w1:=(below_drewN ((Below.refl w.heap.size w).alloc (Nat.le_refl _) _) n).trans (hB1.mono (by simp));obtain⟨c0,c1,c2,f0,f1,f2⟩:=hO1.three
 go_wp2
 exact bodyPost_ret (v:= .tuple #[kd,.int .i64 4]) (by simp[results,Tryz.results36,go_sem,c0,c1,c2,kd]) rfl ⟨rfl,((hW1.setCell (by simp) _).setCell (by simp) _).setCell (by simp) _⟩
end Go.Proofs.YteagkgagdelklaaGreatDoor
namespace Go.Proofs.YteagkgagdelklaaGreatDoor
open Go.RowKit Go.Lib Go.Joins
def zV (s rest:List UInt8) (n:Nat):Prop:=jf s=n*10^rest.length+jf rest∧(n=0∨rest.length%19=0)∧rest.length≤s.length∧j7 rest
theorem zV.start {s:List UInt8} (h:j7 s):zV s s 0:=⟨by omega,.inl rfl,Nat.le_refl _,h⟩
theorem zV.step {s rest:List UInt8} {n:Nat} (h:zV s rest n) (h0:0<rest.length):
  zV s (rest.drop ((rest.length-1)%19+1)) (n*10000000000000000000+jf (rest.take ((rest.length-1)%19+1)))∧jf (rest.take ((rest.length-1)%19+1))<10000000000000000000:=by
 obtain⟨h1,h2,h3,h4⟩:=h;generalize hk:(rest.length-1)%19+1=k
 have hk1:k≤rest.length:=by have:=Nat.mod_le (rest.length-1) 19;omega
 have hk2:k≤19:=by have:=QaI (rest.length-1) (show 0<19 by decide);omega
 have hlen:(rest.drop k).length=rest.length-k:=by simp
 have htl:(rest.take k).length=k:=by simp;omega
 have hr:jf rest=jf (rest.take k)*10^(rest.length-k)+jf (rest.drop k):=by
  have:=JZ (rest.take k) (rest.drop k);rw[Qb2,hlen] at this;exact this
 have hlt:jf (rest.take k)<10^k:=by have:=xf (JW h4 k);rwa [htl] at this
 have hk19:n*10000000000000000000=n*10^k:=by
  rcases h2 with rfl | h2
  ·simp
  ·have:k=19:=by omega
   subst this;rfl
 have hsplit:n*10^rest.length=n*10^k*10^(rest.length-k):=by rw[Qal,←Qbj];congr 2;omega
 have he:jf s=(n*10^k+jf (rest.take k))*10^(rest.length-k)+jf (rest.drop k):=by
  rw[h1,hr,hsplit,Qaz];omega
 refine⟨⟨by rw[hk19,hlen];exact he,.inr (by rw[hlen];omega),by omega,YT h4 k⟩,?_⟩;have:10^k≤10^19:=Qai (by decide) hk2;omega
theorem zV.fits {s rest:List UInt8} {n:Nat} (h:zV s rest n) (hs:j7 s) (hl:s.length≤1000000) (hd:qI s.length):jp n:=by
 have h1:=xf hs;have h2:n*1≤n*10^rest.length:=Qan _ (Qcm _ _ (by decide));have h3:=h.1;exact jp.of_pow (k:=s.length) (by omega) hd (by omega)
theorem To (l:List UInt8) (k:Nat):(ByteArray.mk l.toArray).extract 0 k=⟨(l.take k).toArray⟩:=by
 apply ByteArray.ext
 simp
theorem Tm (l:List UInt8) (k n:Nat) (h:l.length≤n):(ByteArray.mk l.toArray).extract k n=⟨(l.drop k).toArray⟩:=by
 apply ByteArray.ext
 simp
 rw[Qad (by simp;omega)]
theorem Fb (l:List UInt8) (w:World) (h:j7 l) (h0:0<l.length) (hl:l.length≤19):
  Calls Tryz.prog 124 #[.string ⟨l.toArray⟩,.int .i64 10,.int .i64 64] w fun e w'=>e = .returned (.tuple #[.int .u64 (jf l:Nat),.nilIface])∧Below w.heap.size w w':=by
 have hs:(ByteArray.mk l.toArray).size=l.length:=by simp[ByteArray.size]
 refine(Tryz.strconv_ParseUint_10_at64_ok ⟨l.toArray⟩ (by rw[hs];omega) (jf l) (by simpa using Fc l h (by intro e;subst e;simp at h0) hl) w).mono fun e w' ⟨h1,h2⟩=>⟨h1,?_⟩
 rcases h2 with rfl | rfl
 ·exact Below.refl _ _
 ·exact below_bytesWorld _ _ _ _ (Nat.le_refl _)
theorem zK (s:List UInt8) (w:World) (h:j7 s) (hl:s.length≤1000000) (hd:qI s.length):
  Calls Tryz.prog 80 #[.string ⟨s.toArray⟩] w fun e w'=>∃v,e = .returned v∧Nt w' v (jf s)∧Below w.heap.size w w':=by
 have hst:=hid (zV.start h);have H:=hid h;clear h;go_enter Tryz.func80,Tryz.ntmps80
 go_wp2
 go_loopg [0,3,4,5,6] s.length (fun g d v _ _ _ wr=>∃(rest:List UInt8) (n:Nat),g=rest.length∧d = .string ⟨rest.toArray⟩∧Hid (Nt wr v n)∧Hid (zV s rest n)∧Below w.heap.size w wr)
 case atStart=>exact⟨s,0,rfl,rfl,hid Nt.nil,hst,Below.refl _ _⟩
 case round=>
  obtain⟨rest,n,rfl,rfl,hN,hI,hB⟩:=hrel;have hrl:rest.length≤s.length:=hI.out.2.2.1;by_cases h0:0<rest.length
  ·obtain⟨hst,hwl⟩:=hI.out.step h0
   have hkl:(rest.length-1)%19+1≤rest.length:=by have:=Nat.mod_le (rest.length-1) 19;omega
   have hpc:=fun w=>Fb (rest.take ((rest.length-1)%19+1)) w (JW hI.out.2.2.2 _) (by rw[Qak];omega) (by rw[Qak];have:=QaI (rest.length-1) (show 0<19 by decide);omega)
   have hfit:=hid (hI.out.fits H.out hl hd)
   have hdl:(rest.drop ((rest.length-1)%19+1)).length<rest.length:=by rw[Qa3];omega
   rw[←To] at hpc;have Hst:=hid hst;have HPC:=hid hpc;clear hst hpc;have hww:jf (rest.take ((rest.length-1)%19+1))<WB:=Nat.lt_trans hwl KD;have Hdl:=hid hdl;clear hdl
   go_wp2_with fail
   refine(HPC.out _).mono ?_;rintro e w1 ⟨rfl,hB1⟩
   go_wp2_with fail
   refine(ED _ n 10000000000000000000 _ _ (hN.out.below hB1) KD hww hfit.out).mono ?_;rintro e w2 ⟨v2,rfl,hv2,hB2⟩
   go_wp2
   go_roundg ((rest.drop ((rest.length-1)%19+1)).length)
   case measure=>exact Hdl.out
   case rel=>exact⟨_,_,rfl,by rw[Tm _ _ _ (Nat.le_refl _)],hid hv2,Hst,hB.trans ((hB1.trans (hB2.mono hB1.size)).mono hB.size)⟩
  ·have h00:rest.length=0:=by omega
   have hr:rest=[]:=List.length_eq_zero_iff.1 h00;subst hr
   have hval:jf s=n:=by have:=hI.out.1;simpa [jf,zC] using this
   have Hval:=hid hval;clear hval
   go_wp2
   go_ret;exact⟨_,rfl,by rw[Hval.out];exact hN.out,hB⟩
end Go.Proofs.YteagkgagdelklaaGreatDoor
namespace Go.Proofs.YteagkgagdelklaaGreatDoor
open Go.RowKit Go.Lib
theorem ZD {W0 x x':World} {p q:Nat} {a1 a2 b1 b2:Value} (hb:Below x.heap.size x x') (hp:p<W0.heap.size) (hq:q<W0.heap.size)
  (h1:x.cell? ⟨p,1,none⟩=some a1) (h2:x.cell? ⟨p,2,none⟩=some a2) (h3:x.cell? ⟨q,1,none⟩=some b1) (h4:x.cell? ⟨q,2,none⟩=some b2) (h5:Below W0.heap.size W0 x):
  x'.cell? ⟨p,1,none⟩=some a1∧x'.cell? ⟨p,2,none⟩=some a2∧x'.cell? ⟨q,1,none⟩=some b1∧x'.cell? ⟨q,2,none⟩=some b2∧Below W0.heap.size W0 x':=by
 have hs:=h5.size;exact⟨(hb.cell (p:=⟨p,1,none⟩) (Qac hp hs)).trans h1,(hb.cell (p:=⟨p,2,none⟩) (Qac hp hs)).trans h2,(hb.cell (p:=⟨q,1,none⟩) (Qac hq hs)).trans h3,(hb.cell (p:=⟨q,2,none⟩) (Qac hq hs)).trans h4,h5.trans (hb.mono hs)⟩
def qR (q:Rat) (w:World) (e:Ending) (w':World):Prop:=∃v,e = .returned v∧Rt w' v q∧Below w.heap.size w w'
theorem zI (neg:Bool) (n d:Nat):j9 neg n d=mkRat (sg neg n) d:=by unfold j9;exact Cd neg n d
theorem Nt.pos_len {w:World} {v:Value} {x:Nat} (h:Nt w v x) (h0:x≠0):∃A k c,v = .slice A k c∧0<k∧k≤140737488355328:=by
 obtain⟨ws,A,c,rfl,g1,g2,g3,hc1,hc2,hs⟩:=h.open_;refine⟨A,ws.length,c,rfl,?_,by omega⟩;rcases QaA ws.length with hl | hl
 ·exfalso;apply h0;rw[←g1,List.length_eq_zero_iff.1 hl];rfl
 ·exact hl
theorem Mc (na nb:Bool) (nv dv mv ev:Value) (n d m e:Nat) (w:World) (h1:Nt w nv n) (h2:Nt w dv d) (h3:Nt w mv m) (h4:Nt w ev e) (hd:d≠0) (he:e≠0)
  (f1:jp n) (f2:jp d) (f3:jp m) (f4:jp e)
  (c1:Nat.gcd n d=1) (c2:Nat.gcd m e=1):
  Calls Tryz.prog 98 #[.agg #[.bool na,nv,dv],.agg #[.bool nb,mv,ev]] w (qR (j9 na n d*j9 nb m e) w):=by
 have Hm:=hid (Cg na nb n d m e hd he);have Hl:=hid (Ch n d m e hd he c1 c2);clear c1 c2;have hD1:0<d/Nat.gcd m d:=Nat.div_pos (Qcd m (by omega)) (QaY _ (by omega));have hE1:0<e/Nat.gcd n e:=Nat.div_pos (Qcd n (by omega)) (QaY _ (by omega))
 obtain⟨W0,hW0⟩:∃W0,W0=((w.alloc (.cells #[.bool na,nv,dv] 69)).alloc (.cells #[.bool nb,mv,ev] 69)).alloc (.cells #[.bool false,.slice none 0 0,.slice none 0 0] 69):=⟨_,rfl⟩
 have hB0:Below w.heap.size w W0:=by rw[hW0];exact(((Below.refl _ _).alloc (Nat.le_refl _) _).alloc (by simp) _).alloc (by simp;omega) _
 have hs0:W0.heap.size=w.heap.size+3:=by rw[hW0];simp
 have hP:ja W0 w.heap.size 69 [.bool na,nv,dv]:=by rw[hW0];exact((ja.make w _ [.bool na,nv,dv]).alloc _).alloc _
 have hQ:ja W0 (w.heap.size+1) 69 [.bool nb,mv,ev]:=by
  rw[hW0];have:=ja.make (w.alloc (.cells #[.bool na,nv,dv] 69)) 69 [.bool nb,mv,ev];simp only[World.size_alloc] at this;exact this.alloc _
 have hR:ja W0 (w.heap.size+1+1) 69 [.bool false,.slice none 0 0,.slice none 0 0]:=by
  rw[hW0];have:=ja.make ((w.alloc (.cells #[.bool na,nv,dv] 69)).alloc (.cells #[.bool nb,mv,ev] 69)) 69 [.bool false,.slice none 0 0,.slice none 0 0];simp only[World.size_alloc] at this;exact this
 have N1:=h1.below hB0;have N2:=h2.below hB0;have N3:=h3.below hB0;have N4:=h4.below hB0
 have S0:W0.drew.cell? ⟨w.heap.size,1,none⟩=some nv∧W0.drew.cell? ⟨w.heap.size,2,none⟩=some dv∧W0.drew.cell? ⟨w.heap.size+1,1,none⟩=some mv∧W0.drew.cell? ⟨w.heap.size+1,2,none⟩=some ev∧Below W0.heap.size W0 W0.drew:=
  ⟨hP.cell 1,hP.cell 2,hQ.cell 1,hQ.cell 2,(Below.refl _ _).drew⟩
 have hp:w.heap.size<W0.heap.size:=by omega
 have hq:w.heap.size+1<W0.heap.size:=by omega
 have HS0:=hid hs0;clear hs0 h1 h2 h3 h4;go_enter Tryz.func98,Tryz.ntmps98
 go_upto_region 1 with fail
 rw[←hW0];clear hW0
 go_region_held3 (fun w'=>w'.cell? ⟨w.heap.size,1,none⟩=some nv∧w'.cell? ⟨w.heap.size,2,none⟩=some dv∧w'.cell? ⟨w.heap.size+1,1,none⟩=some mv∧w'.cell? ⟨w.heap.size+1,2,none⟩=some ev∧Below W0.heap.size W0 w')
  (first | exact S0 | exact ZD (by assumption) hp hq (by assumption) (by assumption) (by assumption) (by assumption) (by assumption))
  (first
   | (go_at_call_of 81 nv;go_split_ands;refine(JC nv ev n e _ (N1.below (by assumption)) (N4.below (by assumption)) f1 f4).mono ?_;rintro e w1 ⟨l,rfl,hl1,hB1⟩)
   | (go_at_call_of 81 mv;go_split_ands;refine(JC mv dv m d _ (N3.below (by assumption)) (N2.below (by assumption)) f3 f2).mono ?_;rintro e w2 ⟨r,rfl,hr,hB2⟩))
 have hl:=hl1.below hB2
 have hS2:w2.cell? ⟨w.heap.size,1,none⟩=some nv∧w2.cell? ⟨w.heap.size,2,none⟩=some dv∧w2.cell? ⟨w.heap.size+1,1,none⟩=some mv∧w2.cell? ⟨w.heap.size+1,2,none⟩=some ev∧Below W0.heap.size W0 w2:=by assumption
 clear hl1 hB1 hB2;have M1:=N1.below hS2.2.2.2.2;have M2:=N2.below hS2.2.2.2.2;have M3:=N3.below hS2.2.2.2.2;have M4:=N4.below hS2.2.2.2.2;have HS2:=hid hS2;clear hS2;generalize hg1:Nat.gcd n e=g1 at *;generalize hg2:Nat.gcd m d=g2 at *
 have hg1p:0<g1:=by rw[←hg1];exact QaY _ (by omega)
 have hg2p:0<g2:=by rw[←hg2];exact QaY _ (by omega)
 have q1:jp (n/g1):=f1.le (QaW _ _);have q2:jp (m/g2):=f3.le (QaW _ _);have q3:jp (d/g2):=f2.le (QaW _ _);have q4:jp (e/g1):=f4.le (QaW _ _);clear hg1 hg2
 go_wp2
 go_region_held3 (fun w'=>w'.cell? ⟨w.heap.size,1,none⟩=some nv∧w'.cell? ⟨w.heap.size,2,none⟩=some dv∧w'.cell? ⟨w.heap.size+1,1,none⟩=some mv∧w'.cell? ⟨w.heap.size+1,2,none⟩=some ev∧Below w2.heap.size w2 w')
  (first | exact⟨HS2.out.1,HS2.out.2.1,HS2.out.2.2.1,HS2.out.2.2.2.1,(Below.refl _ _).drew⟩ | exact ZD (by assumption) (Qac hp HS2.out.2.2.2.2.size) (Qac hq HS2.out.2.2.2.2.size) (by assumption) (by assumption) (by assumption) (by assumption) (by assumption))
  (first
   | (go_at_call_of 142 nv;go_split_ands;refine(JA nv l n g1 _ (M1.below (by assumption)) (hl.below (by assumption)) hg1p f1).mono ?_;rintro e w3 ⟨x1,rfl,hx1,hB3⟩)
   | (go_at_call_of 142 mv;go_split_ands;refine(JA mv r m g2 _ (M3.below (by assumption)) (hr.below (by assumption)) hg2p f3).mono ?_;rintro e w4 ⟨x2,rfl,hx2,hB4⟩)
   | (go_at_call 143;go_split_ands;refine(Q4 _ _ (n/g1) (m/g2) _ (hx1.below (by assumption)) hx2 q1 q2).mono ?_;rintro e w5 ⟨num,rfl,hnum,hB5⟩))
 have hS5:w5.cell? ⟨w.heap.size,1,none⟩=some nv∧w5.cell? ⟨w.heap.size,2,none⟩=some dv∧w5.cell? ⟨w.heap.size+1,1,none⟩=some mv∧w5.cell? ⟨w.heap.size+1,2,none⟩=some ev∧Below w2.heap.size w2 w5:=by assumption
 have L2:=Qac hp HS2.out.2.2.2.2.size;have L3:=Qac hq HS2.out.2.2.2.2.size;have L5:=Qac L2 hS5.2.2.2.2.size;have L6:=Qac L3 hS5.2.2.2.2.size;have P2:=M2.below hS5.2.2.2.2;have P4:=M4.below hS5.2.2.2.2;have hl5:=hl.below hS5.2.2.2.2;have hr5:=hr.below hS5.2.2.2.2;have hW5:=HS2.out.2.2.2.2.trans (hS5.2.2.2.2.mono HS2.out.2.2.2.2.size);have HS5:=hid hS5;clear hS5 M1 M2 M3 M4 hx1 hx2 hl hr
 go_wp2
 go_region_held3 (fun w'=>w'.cell? ⟨w.heap.size,1,none⟩=some nv∧w'.cell? ⟨w.heap.size,2,none⟩=some dv∧w'.cell? ⟨w.heap.size+1,1,none⟩=some mv∧w'.cell? ⟨w.heap.size+1,2,none⟩=some ev∧Below w5.heap.size w5 w')
  (first | exact⟨HS5.out.1,HS5.out.2.1,HS5.out.2.2.1,HS5.out.2.2.2.1,(Below.refl _ _).drew⟩ | exact ZD (by assumption) L5 L6 (by assumption) (by assumption) (by assumption) (by assumption) (by assumption))
  (first
   | (go_at_call_of 142 dv;go_split_ands;refine(JA dv r d g2 _ (P2.below (by assumption)) (hr5.below (by assumption)) hg2p f2).mono ?_;rintro e w6 ⟨x1,rfl,hx1,hB6⟩)
   | (go_at_call_of 142 ev;go_split_ands;refine(JA ev l e g1 _ (P4.below (by assumption)) (hl5.below (by assumption)) hg1p f4).mono ?_;rintro e w7 ⟨x2,rfl,hx2,hB7⟩)
   | (go_at_call 143;go_split_ands;refine(Q4 _ _ (d/g2) (e/g1) _ (hx1.below (by assumption)) hx2 q3 q4).mono ?_;rintro e w8 ⟨den,rfl,hden,hB8⟩))
 have hS8:w8.cell? ⟨w.heap.size,1,none⟩=some nv∧w8.cell? ⟨w.heap.size,2,none⟩=some dv∧w8.cell? ⟨w.heap.size+1,1,none⟩=some mv∧w8.cell? ⟨w.heap.size+1,2,none⟩=some ev∧Below w5.heap.size w5 w8:=by assumption
 have hnum8:=hnum.below hS8.2.2.2.2;have hW8:=hW5.trans (hS8.2.2.2.2.mono hW5.size);have hP8:=hP.below hW8 hp;have hQ8:=hQ.below hW8 hq;have hR8:=hR.below hW8 (by have:=HS0.out;omega);clear hS8 hx1 hx2 hnum P2 P4 hl5 hr5;obtain⟨c0,c1,c2,_,_,_⟩:=hP8.three;obtain⟨d0,d1,d2,_,_,_⟩:=hQ8.three;obtain⟨e0,e1,e2,k0,k1,k2⟩:=hR8.three;have hWt:=hB0.trans (hW8.mono hB0.size);have hDp:d/g2*(e/g1)≠0:=Nat.mul_ne_zero (by omega) (by omega)
 have key:∀ng:Bool,ng=((na != nb)&&decide (0<n/g1*(m/g2)))→Hid (Rt (((w8.setCell ⟨w.heap.size+1+1,0,none⟩ (.bool ng)).setCell ⟨w.heap.size+1+1,1,none⟩ num).setCell ⟨w.heap.size+1+1,2,none⟩ den) (.agg #[.bool ng,num,den]) (j9 na n d*j9 nb m e)):=by
  intro ng hng;apply hid;rw[zI,zI,Hm.out,←hng,←zI]
  refine Rt.mk_ hDp Hl.out ?_ (hnum8.put3 hR8 (ju _) (jr _ _ _) (jr _ _ _) (ju _) hnum8.noInt) (hden.put3 hR8 (ju _) (jr _ _ _) (jr _ _ _) (ju _) hnum8.noInt)
  intro h hz;rw[hng,hz] at h;simp at h
 have Key:=hid key;clear key;obtain⟨A2,k2',cc2,hdvs,_⟩:=hden.size_;by_cases hz:n/g1*(m/g2)=0
 ·have hdz:decide (0<n/g1*(m/g2))=false:=by simp[hz]
  obtain⟨A,cc,hnv⟩:=Nt.zero_len (hz ▸ hnum8);rw[hdz] at Key;clear hnum8 hden hz hdz;subst hnv hdvs;cases na <;> cases nb
  all_goals
   have KR:=Key.out false rfl
   go_wp2
   exact bodyPost_ret (v:= .agg #[.bool false,.slice A 0 cc,.slice A2 k2' cc2]) (by simp[results,Tryz.results98,go_sem,e0,e1,e2]) rfl ⟨_,rfl,KR.out,((hWt.setCell (by simp;omega) _).setCell (by simp;omega) _).setCell (by simp;omega) _⟩
 ·have hdz:decide (0<n/g1*(m/g2))=true:=by simp;omega
  obtain⟨A,kk,cc,hnv,hkk,hkm⟩:=hnum8.pos_len hz;rw[hdz] at Key;clear hnum8 hden hz hdz;subst hnv hdvs;cases na <;> cases nb
  ·have KR:=Key.out false rfl
   go_wp2
   exact bodyPost_ret (v:= .agg #[.bool false,.slice A kk cc,.slice A2 k2' cc2]) (by simp[results,Tryz.results98,go_sem,e0,e1,e2]) rfl ⟨_,rfl,KR.out,((hWt.setCell (by simp;omega) _).setCell (by simp;omega) _).setCell (by simp;omega) _⟩
  ·have KR:=Key.out true rfl
   go_wp2
   exact bodyPost_ret (v:= .agg #[.bool true,.slice A kk cc,.slice A2 k2' cc2]) (by simp[results,Tryz.results98,go_sem,e0,e1,e2]) rfl ⟨_,rfl,KR.out,((hWt.setCell (by simp;omega) _).setCell (by simp;omega) _).setCell (by simp;omega) _⟩
  ·have KR:=Key.out true rfl
   go_wp2
   exact bodyPost_ret (v:= .agg #[.bool true,.slice A kk cc,.slice A2 k2' cc2]) (by simp[results,Tryz.results98,go_sem,e0,e1,e2]) rfl ⟨_,rfl,KR.out,((hWt.setCell (by simp;omega) _).setCell (by simp;omega) _).setCell (by simp;omega) _⟩
  ·have KR:=Key.out false rfl
   go_wp2
   exact bodyPost_ret (v:= .agg #[.bool false,.slice A kk cc,.slice A2 k2' cc2]) (by simp[results,Tryz.results98,go_sem,e0,e1,e2]) rfl ⟨_,rfl,KR.out,((hWt.setCell (by simp;omega) _).setCell (by simp;omega) _).setCell (by simp;omega) _⟩
theorem Md (v u:Value) (p q:Rat) (w:World) (h:Rt w v p) (h':Rt w u q) (f1:jp p.num.natAbs) (f2:jp p.den) (f3:jp q.num.natAbs) (f4:jp q.den):
  Calls Tryz.prog 98 #[v,u] w (qR (p*q) w):=by
 obtain⟨na,nv,dv,n,d,rfl,h1,h2,hd,c1,_,hp,_,hn,hdd⟩:=h.open_;obtain⟨nb,mv,ev,m,e,rfl,h3,h4,he,c2,_,hq,_,hm,hee⟩:=h'.open_;rw[hp,hq];exact Mc na nb nv dv mv ev n d m e w h1 h2 h3 h4 hd he (hn ▸ f1) (hdd ▸ f2) (hm ▸ f3) (hee ▸ f4) c1 c2
theorem Nu {l:List UInt8} (h:j7 l) (h0:l≠[]) (h1:l.head? ≠some 48):jf l≠0:=by
 cases l with
 | nil=>exact absurd rfl h0
 | cons c r=>
  have e:=JZ [c] r;rw[show jf [c]=c.toNat-48 from by rw[jf,z7,zC];omega] at e;have h2:=h c (by simp)
  have h3:c.toNat≠48:=by
   intro hc;apply h1;simp only[List.head?_cons]
   congr 1
   exact UInt8.toNat_inj.1 hc
  have h4:1*10^r.length≤(c.toNat-48)*10^r.length:=Qas _ (by omega);have h5:1≤10^r.length:=Qcm _ _ (by decide);have h6:[c]++r=c::r:=rfl;rw[h6] at e;omega
theorem Yc {l:List UInt8} (h:jF l) (h0:(l==[48])=false):jf l≠0:=by
 rcases h.2 with h1 | ⟨h1,h2⟩
 ·rw[h1] at h0;simp at h0
 ·exact Nu h.1 h1 h2
theorem Lq (l dg a b:List UInt8) (w:World) (h1:hasPrefix l [45]=true) (h2:trimPrefix l [45]=dg) (h3:cut dg [47]=(a,b,false)) (hdl:dg.length<4294967281) (hal:a.length<4294967281) (hG:jK w) (hDa:qI a.length)
  (hn:jF a) (hz:(a==[48])=false) (hb:b=[]) (hlen:a.length≤600):Calls Tryz.prog 36 #[.string ⟨l.toArray⟩] w (JH (j9 true (jf a) 1) w):=by
 go_enter Tryz.func36,Tryz.ntmps36
 go_wp2_with fail
 refine(qi l dg true _ h1 h2).mono ?_;rintro e w' ⟨rfl,rfl⟩
 go_wp2_with fail
 refine(qj dg a b false _ h3 hdl (hG.below ((Below.refl _ _).alloc (Nat.le_refl _) _))).mono ?_;rintro e w' ⟨rfl,n,rfl⟩
 go_wp2_with fail
 refine(kA a _ hn hal).mono ?_;rintro e w1 ⟨rfl,hB1⟩
 have hO1:=(((ja.make w 69 [.bool false,.slice none 0 0,.slice none 0 0]).drewN n).below hB1 (by simp))
 have hW1:Below w.heap.size w w1:=(below_drewN ((Below.refl w.heap.size w).alloc (Nat.le_refl _) _) n).trans (hB1.mono (by simp));have Hb:=hid hb;clear hb
 go_wp2_with fail
 refine(zK a _ hn.1 (by omega) hDa).mono ?_;rintro e w2 ⟨nv,rfl,hnv,hB2⟩
 have hO2:=(hO1.below hB2 hO1.lt)
 have hW2:=hW1.trans (hB2.mono hW1.size);have hnv2:=hnv.below ((Below.refl _ w2).alloc (Nat.le_refl _) (.cells #[.int .u64 1] 89));have hO3:=hO2.alloc (.cells #[.int .u64 1] 89);have hone:=Nt.one w2 89;obtain⟨c0,c1,c2,f0,f1,f2⟩:=hO3.three
 have hR:Rt ((((w2.alloc (.cells #[.int .u64 1] 89)).setCell ⟨w.heap.size,0,none⟩ (.bool true)).setCell ⟨w.heap.size,1,none⟩ nv).setCell ⟨w.heap.size,2,none⟩ (.slice (some ⟨w2.heap.size,0,none⟩) 1 1)) (.agg #[.bool true,nv,.slice (some ⟨w2.heap.size,0,none⟩) 1 1]) (j9 true (jf a) 1):=
  Rt.mk_ (by decide) (QbX _) (fun _=>Yc hn hz) (hnv2.put3 hO3 (ju _) (jr _ _ _) (jr _ _ _) (ju _) hnv.noInt) (hone.put3 hO3 (ju _) (jr _ _ _) (jr _ _ _) (ju _) hnv.noInt)
 obtain⟨A,m,c,hnvs,hm⟩:=hnv.size_;have HR:=hid hR;clear hR hone hnv hnv2;subst hnvs
 go_wp2
 exact bodyPost_ret (v:= .tuple #[.agg #[.bool true,.slice A m c,.slice (some ⟨w2.heap.size,0,none⟩) 1 1],.int .i64 0]) (by simp[results,Tryz.results36,go_sem,c0,c1,c2]) rfl ⟨_,rfl,HR.out,(((hW2.alloc hW2.size _).setCell (by simp) _).setCell (by simp) _).setCell (by simp) _⟩
theorem Lr (l dg a b:List UInt8) (w:World) (h1:hasPrefix l [45]=false) (h2:trimPrefix l [45]=dg) (h3:cut dg [47]=(a,b,false)) (hdl:dg.length<4294967281) (hal:a.length<4294967281) (hG:jK w) (hDa:qI a.length)
  (hn:jF a) (hb:b=[]) (hlen:a.length≤600):Calls Tryz.prog 36 #[.string ⟨l.toArray⟩] w (JH (j9 false (jf a) 1) w):=by
 go_enter Tryz.func36,Tryz.ntmps36
 go_wp2_with fail
 refine(qi l dg false _ h1 h2).mono ?_;rintro e w' ⟨rfl,rfl⟩
 go_wp2_with fail
 refine(qj dg a b false _ h3 hdl (hG.below ((Below.refl _ _).alloc (Nat.le_refl _) _))).mono ?_;rintro e w' ⟨rfl,n,rfl⟩
 go_wp2_with fail
 refine(kA a _ hn hal).mono ?_;rintro e w1 ⟨rfl,hB1⟩
 have hO1:=(((ja.make w 69 [.bool false,.slice none 0 0,.slice none 0 0]).drewN n).below hB1 (by simp))
 have hW1:Below w.heap.size w w1:=(below_drewN ((Below.refl w.heap.size w).alloc (Nat.le_refl _) _) n).trans (hB1.mono (by simp));have Hb:=hid hb;clear hb
 go_wp2_with fail
 refine(zK a _ hn.1 (by omega) hDa).mono ?_;rintro e w2 ⟨nv,rfl,hnv,hB2⟩
 have hO2:=(hO1.below hB2 hO1.lt)
 have hW2:=hW1.trans (hB2.mono hW1.size);have hnv2:=hnv.below ((Below.refl _ w2).alloc (Nat.le_refl _) (.cells #[.int .u64 1] 89));have hO3:=hO2.alloc (.cells #[.int .u64 1] 89);have hone:=Nt.one w2 89;obtain⟨c0,c1,c2,f0,f1,f2⟩:=hO3.three
 have hR:Rt ((((w2.alloc (.cells #[.int .u64 1] 89)).setCell ⟨w.heap.size,0,none⟩ (.bool false)).setCell ⟨w.heap.size,1,none⟩ nv).setCell ⟨w.heap.size,2,none⟩ (.slice (some ⟨w2.heap.size,0,none⟩) 1 1)) (.agg #[.bool false,nv,.slice (some ⟨w2.heap.size,0,none⟩) 1 1]) (j9 false (jf a) 1):=
  Rt.mk_ (by decide) (QbX _) (fun h=>by cases h) (hnv2.put3 hO3 (ju _) (jr _ _ _) (jr _ _ _) (ju _) hnv.noInt) (hone.put3 hO3 (ju _) (jr _ _ _) (jr _ _ _) (ju _) hnv.noInt)
 obtain⟨A,m,c,hnvs,hm⟩:=hnv.size_;have HR:=hid hR;clear hR hone hnv hnv2;subst hnvs
 go_wp2
 exact bodyPost_ret (v:= .tuple #[.agg #[.bool false,.slice A m c,.slice (some ⟨w2.heap.size,0,none⟩) 1 1],.int .i64 0]) (by simp[results,Tryz.results36,go_sem,c0,c1,c2]) rfl ⟨_,rfl,HR.out,(((hW2.alloc hW2.size _).setCell (by simp) _).setCell (by simp) _).setCell (by simp) _⟩
