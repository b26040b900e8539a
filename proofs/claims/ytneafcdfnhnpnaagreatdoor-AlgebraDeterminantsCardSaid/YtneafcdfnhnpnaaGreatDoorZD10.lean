/- Contract: the number that a text stands for; the texts with an error. -/
import Derived.Test.YtneafcdfnhnpnaaGreatDoorZD09
set_option maxRecDepth 100000
set_option maxHeartbeats 4000000
namespace Go.Proofs.YtneafcdfnhnpnaaGreatDoor
open Go.RowKit Go.Lib
def qa (code:Int) (w:World) (e:Ending) (w':World):Prop:=e = .returned (.tuple #[j6,.int .i64 code])∧Below w.heap.size w w'
def z7 (q:Rat) (w:World) (e:Ending) (w':World):Prop:=∃v,e = .returned (.tuple #[v,.int .i64 0])∧Rt w' v q∧Below w.heap.size w w'
theorem B5 (l dg a b:List UInt8) (w:World) (h1:hasPrefix l [45]=true) (h2:trimPrefix l [45]=dg) (h3:cut dg [47]=(a,b,true)) (hdl:dg.length<4294967281) (hal:a.length<4294967281) (hG:jN w)
  (hn:¬jD a):Calls Tryz.prog 102 #[.string ⟨l.toArray⟩] w (qa 1 w):=by
 go_enter Tryz.func102,Tryz.ntmps102
 go_wp2_with fail
 refine(kY l dg true _ h1 h2).mono ?_;rintro e w' ⟨rfl,rfl⟩
 go_wp2_with fail
 refine(kZ dg a b true _ h3 hdl (hG.below ((Below.refl _ _).alloc (Nat.le_refl _) _))).mono ?_;rintro e w' ⟨rfl,n,rfl⟩
 go_wp2_with fail
 refine(J5 a _ hn hal).mono ?_;rintro e w1 ⟨rfl,hB1⟩
 have hO1:=(((ja.make w 122 [.bool false,.slice none 0 0,.slice none 0 0]).drewN n).below hB1 (by simp))
 have hW1:Below w.heap.size w w1:=(below_drewN ((Below.refl w.heap.size w).alloc (Nat.le_refl _) _) n).trans (hB1.mono (by simp));obtain⟨c0,c1,c2,f0,f1,f2⟩:=hO1.three
 go_wp2
 exact bodyPost_ret (v:= .tuple #[j6,.int .i64 1]) (by simp[results,Tryz.results102,go_sem,c0,c1,c2,j6]) rfl ⟨rfl,((hW1.setCell (by simp) _).setCell (by simp) _).setCell (by simp) _⟩
theorem B6 (l dg a b:List UInt8) (w:World) (h1:hasPrefix l [45]=true) (h2:trimPrefix l [45]=dg) (h3:cut dg [47]=(a,b,false)) (hdl:dg.length<4294967281) (hal:a.length<4294967281) (hG:jN w)
  (hn:¬jD a):Calls Tryz.prog 102 #[.string ⟨l.toArray⟩] w (qa 1 w):=by
 go_enter Tryz.func102,Tryz.ntmps102
 go_wp2_with fail
 refine(kY l dg true _ h1 h2).mono ?_;rintro e w' ⟨rfl,rfl⟩
 go_wp2_with fail
 refine(kZ dg a b false _ h3 hdl (hG.below ((Below.refl _ _).alloc (Nat.le_refl _) _))).mono ?_;rintro e w' ⟨rfl,n,rfl⟩
 go_wp2_with fail
 refine(J5 a _ hn hal).mono ?_;rintro e w1 ⟨rfl,hB1⟩
 have hO1:=(((ja.make w 122 [.bool false,.slice none 0 0,.slice none 0 0]).drewN n).below hB1 (by simp))
 have hW1:Below w.heap.size w w1:=(below_drewN ((Below.refl w.heap.size w).alloc (Nat.le_refl _) _) n).trans (hB1.mono (by simp));obtain⟨c0,c1,c2,f0,f1,f2⟩:=hO1.three
 go_wp2
 exact bodyPost_ret (v:= .tuple #[j6,.int .i64 1]) (by simp[results,Tryz.results102,go_sem,c0,c1,c2,j6]) rfl ⟨rfl,((hW1.setCell (by simp) _).setCell (by simp) _).setCell (by simp) _⟩
theorem B8 (l dg a b:List UInt8) (w:World) (h1:hasPrefix l [45]=false) (h2:trimPrefix l [45]=dg) (h3:cut dg [47]=(a,b,true)) (hdl:dg.length<4294967281) (hal:a.length<4294967281) (hG:jN w)
  (hn:¬jD a):Calls Tryz.prog 102 #[.string ⟨l.toArray⟩] w (qa 1 w):=by
 go_enter Tryz.func102,Tryz.ntmps102
 go_wp2_with fail
 refine(kY l dg false _ h1 h2).mono ?_;rintro e w' ⟨rfl,rfl⟩
 go_wp2_with fail
 refine(kZ dg a b true _ h3 hdl (hG.below ((Below.refl _ _).alloc (Nat.le_refl _) _))).mono ?_;rintro e w' ⟨rfl,n,rfl⟩
 go_wp2_with fail
 refine(J5 a _ hn hal).mono ?_;rintro e w1 ⟨rfl,hB1⟩
 have hO1:=(((ja.make w 122 [.bool false,.slice none 0 0,.slice none 0 0]).drewN n).below hB1 (by simp))
 have hW1:Below w.heap.size w w1:=(below_drewN ((Below.refl w.heap.size w).alloc (Nat.le_refl _) _) n).trans (hB1.mono (by simp));obtain⟨c0,c1,c2,f0,f1,f2⟩:=hO1.three
 go_wp2
 exact bodyPost_ret (v:= .tuple #[j6,.int .i64 1]) (by simp[results,Tryz.results102,go_sem,c0,c1,c2,j6]) rfl ⟨rfl,((hW1.setCell (by simp) _).setCell (by simp) _).setCell (by simp) _⟩
theorem Ca (l dg a b:List UInt8) (w:World) (h1:hasPrefix l [45]=false) (h2:trimPrefix l [45]=dg) (h3:cut dg [47]=(a,b,false)) (hdl:dg.length<4294967281) (hal:a.length<4294967281) (hG:jN w)
  (hn:¬jD a):Calls Tryz.prog 102 #[.string ⟨l.toArray⟩] w (qa 1 w):=by
 go_enter Tryz.func102,Tryz.ntmps102
 go_wp2_with fail
 refine(kY l dg false _ h1 h2).mono ?_;rintro e w' ⟨rfl,rfl⟩
 go_wp2_with fail
 refine(kZ dg a b false _ h3 hdl (hG.below ((Below.refl _ _).alloc (Nat.le_refl _) _))).mono ?_;rintro e w' ⟨rfl,n,rfl⟩
 go_wp2_with fail
 refine(J5 a _ hn hal).mono ?_;rintro e w1 ⟨rfl,hB1⟩
 have hO1:=(((ja.make w 122 [.bool false,.slice none 0 0,.slice none 0 0]).drewN n).below hB1 (by simp))
 have hW1:Below w.heap.size w w1:=(below_drewN ((Below.refl w.heap.size w).alloc (Nat.le_refl _) _) n).trans (hB1.mono (by simp));obtain⟨c0,c1,c2,f0,f1,f2⟩:=hO1.three
 go_wp2
 exact bodyPost_ret (v:= .tuple #[j6,.int .i64 1]) (by simp[results,Tryz.results102,go_sem,c0,c1,c2,j6]) rfl ⟨rfl,((hW1.setCell (by simp) _).setCell (by simp) _).setCell (by simp) _⟩
theorem Co (l dg a b:List UInt8) (w:World) (h1:hasPrefix l [45]=true) (h2:trimPrefix l [45]=dg) (h3:cut dg [47]=(a,b,true)) (hdl:dg.length<4294967281) (hal:a.length<4294967281) (hG:jN w)
  (hn:jD a) (hz:(a==[48])=true):Calls Tryz.prog 102 #[.string ⟨l.toArray⟩] w (qa 1 w):=by
 go_enter Tryz.func102,Tryz.ntmps102
 go_wp2_with fail
 refine(kY l dg true _ h1 h2).mono ?_;rintro e w' ⟨rfl,rfl⟩
 go_wp2_with fail
 refine(kZ dg a b true _ h3 hdl (hG.below ((Below.refl _ _).alloc (Nat.le_refl _) _))).mono ?_;rintro e w' ⟨rfl,n,rfl⟩
 go_wp2_with fail
 refine(ky a _ hn hal).mono ?_;rintro e w1 ⟨rfl,hB1⟩
 have hO1:=(((ja.make w 122 [.bool false,.slice none 0 0,.slice none 0 0]).drewN n).below hB1 (by simp))
 have hW1:Below w.heap.size w w1:=(below_drewN ((Below.refl w.heap.size w).alloc (Nat.le_refl _) _) n).trans (hB1.mono (by simp));obtain⟨c0,c1,c2,f0,f1,f2⟩:=hO1.three
 go_wp2
 exact bodyPost_ret (v:= .tuple #[j6,.int .i64 1]) (by simp[results,Tryz.results102,go_sem,c0,c1,c2,j6]) rfl ⟨rfl,((hW1.setCell (by simp) _).setCell (by simp) _).setCell (by simp) _⟩
theorem Cp (l dg a b:List UInt8) (w:World) (h1:hasPrefix l [45]=true) (h2:trimPrefix l [45]=dg) (h3:cut dg [47]=(a,b,false)) (hdl:dg.length<4294967281) (hal:a.length<4294967281) (hG:jN w)
  (hn:jD a) (hz:(a==[48])=true):Calls Tryz.prog 102 #[.string ⟨l.toArray⟩] w (qa 1 w):=by
 go_enter Tryz.func102,Tryz.ntmps102
 go_wp2_with fail
 refine(kY l dg true _ h1 h2).mono ?_;rintro e w' ⟨rfl,rfl⟩
 go_wp2_with fail
 refine(kZ dg a b false _ h3 hdl (hG.below ((Below.refl _ _).alloc (Nat.le_refl _) _))).mono ?_;rintro e w' ⟨rfl,n,rfl⟩
 go_wp2_with fail
 refine(ky a _ hn hal).mono ?_;rintro e w1 ⟨rfl,hB1⟩
 have hO1:=(((ja.make w 122 [.bool false,.slice none 0 0,.slice none 0 0]).drewN n).below hB1 (by simp))
 have hW1:Below w.heap.size w w1:=(below_drewN ((Below.refl w.heap.size w).alloc (Nat.le_refl _) _) n).trans (hB1.mono (by simp));obtain⟨c0,c1,c2,f0,f1,f2⟩:=hO1.three
 go_wp2
 exact bodyPost_ret (v:= .tuple #[j6,.int .i64 1]) (by simp[results,Tryz.results102,go_sem,c0,c1,c2,j6]) rfl ⟨rfl,((hW1.setCell (by simp) _).setCell (by simp) _).setCell (by simp) _⟩
theorem B0 (l dg a b:List UInt8) (w:World) (h1:hasPrefix l [45]=true) (h2:trimPrefix l [45]=dg) (h3:cut dg [47]=(a,b,true)) (hdl:dg.length<4294967281) (hal:a.length<4294967281) (hbl:b.length<4294967281) (hG:jN w)
  (hn:jD a) (hz:(a==[48])=false) (hd:¬jD b):Calls Tryz.prog 102 #[.string ⟨l.toArray⟩] w (qa 1 w):=by
 go_enter Tryz.func102,Tryz.ntmps102
 go_wp2_with fail
 refine(kY l dg true _ h1 h2).mono ?_;rintro e w' ⟨rfl,rfl⟩
 go_wp2_with fail
 refine(kZ dg a b true _ h3 hdl (hG.below ((Below.refl _ _).alloc (Nat.le_refl _) _))).mono ?_;rintro e w' ⟨rfl,n,rfl⟩
 go_wp2_with fail
 refine(ky a _ hn hal).mono ?_;rintro e w1 ⟨rfl,hB1⟩
 have hO1:=(((ja.make w 122 [.bool false,.slice none 0 0,.slice none 0 0]).drewN n).below hB1 (by simp))
 have hW1:Below w.heap.size w w1:=(below_drewN ((Below.refl w.heap.size w).alloc (Nat.le_refl _) _) n).trans (hB1.mono (by simp))
 go_wp2_with fail
 refine(J5 b _ hd hbl).mono ?_;rintro e w2 ⟨rfl,hB2⟩;replace hO1:=hO1.below hB2 (hO1.lt);replace hW1:=hW1.trans (hB2.mono hW1.size);obtain⟨c0,c1,c2,f0,f1,f2⟩:=hO1.three
 go_wp2
 exact bodyPost_ret (v:= .tuple #[j6,.int .i64 1]) (by simp[results,Tryz.results102,go_sem,c0,c1,c2,j6]) rfl ⟨rfl,((hW1.setCell (by simp) _).setCell (by simp) _).setCell (by simp) _⟩
theorem Cc (l dg a b:List UInt8) (w:World) (h1:hasPrefix l [45]=true) (h2:trimPrefix l [45]=dg) (h3:cut dg [47]=(a,b,true)) (hdl:dg.length<4294967281) (hal:a.length<4294967281) (hbl:b.length<4294967281) (hG:jN w)
  (hn:jD a) (hz:(a==[48])=false) (hd:jD b) (hb:(b==[48])=true):Calls Tryz.prog 102 #[.string ⟨l.toArray⟩] w (qa 1 w):=by
 go_enter Tryz.func102,Tryz.ntmps102
 go_wp2_with fail
 refine(kY l dg true _ h1 h2).mono ?_;rintro e w' ⟨rfl,rfl⟩
 go_wp2_with fail
 refine(kZ dg a b true _ h3 hdl (hG.below ((Below.refl _ _).alloc (Nat.le_refl _) _))).mono ?_;rintro e w' ⟨rfl,n,rfl⟩
 go_wp2_with fail
 refine(ky a _ hn hal).mono ?_;rintro e w1 ⟨rfl,hB1⟩
 have hO1:=(((ja.make w 122 [.bool false,.slice none 0 0,.slice none 0 0]).drewN n).below hB1 (by simp))
 have hW1:Below w.heap.size w w1:=(below_drewN ((Below.refl w.heap.size w).alloc (Nat.le_refl _) _) n).trans (hB1.mono (by simp))
 go_wp2_with fail
 refine(ky b _ hd hbl).mono ?_;rintro e w2 ⟨rfl,hB2⟩;replace hO1:=hO1.below hB2 (hO1.lt);replace hW1:=hW1.trans (hB2.mono hW1.size);obtain⟨c0,c1,c2,f0,f1,f2⟩:=hO1.three
 go_wp2
 exact bodyPost_ret (v:= .tuple #[j6,.int .i64 1]) (by simp[results,Tryz.results102,go_sem,c0,c1,c2,j6]) rfl ⟨rfl,((hW1.setCell (by simp) _).setCell (by simp) _).setCell (by simp) _⟩
theorem Ce (l dg a b:List UInt8) (w:World) (h1:hasPrefix l [45]=true) (h2:trimPrefix l [45]=dg) (h3:cut dg [47]=(a,b,true)) (hdl:dg.length<4294967281) (hal:a.length<4294967281) (hbl:b.length<4294967281) (hG:jN w)
  (hn:jD a) (hz:(a==[48])=false) (hd:jD b) (hb0:(b==[48])=false) (hb:(b==[49])=true):Calls Tryz.prog 102 #[.string ⟨l.toArray⟩] w (qa 1 w):=by
 go_enter Tryz.func102,Tryz.ntmps102
 go_wp2_with fail
 refine(kY l dg true _ h1 h2).mono ?_;rintro e w' ⟨rfl,rfl⟩
 go_wp2_with fail
 refine(kZ dg a b true _ h3 hdl (hG.below ((Below.refl _ _).alloc (Nat.le_refl _) _))).mono ?_;rintro e w' ⟨rfl,n,rfl⟩
 go_wp2_with fail
 refine(ky a _ hn hal).mono ?_;rintro e w1 ⟨rfl,hB1⟩
 have hO1:=(((ja.make w 122 [.bool false,.slice none 0 0,.slice none 0 0]).drewN n).below hB1 (by simp))
 have hW1:Below w.heap.size w w1:=(below_drewN ((Below.refl w.heap.size w).alloc (Nat.le_refl _) _) n).trans (hB1.mono (by simp))
 go_wp2_with fail
 refine(ky b _ hd hbl).mono ?_;rintro e w2 ⟨rfl,hB2⟩;replace hO1:=hO1.below hB2 (hO1.lt);replace hW1:=hW1.trans (hB2.mono hW1.size);obtain⟨c0,c1,c2,f0,f1,f2⟩:=hO1.three
 go_wp2
 exact bodyPost_ret (v:= .tuple #[j6,.int .i64 1]) (by simp[results,Tryz.results102,go_sem,c0,c1,c2,j6]) rfl ⟨rfl,((hW1.setCell (by simp) _).setCell (by simp) _).setCell (by simp) _⟩
theorem Ck (l dg a b:List UInt8) (w:World) (h1:hasPrefix l [45]=true) (h2:trimPrefix l [45]=dg) (h3:cut dg [47]=(a,b,true)) (hdl:dg.length<4294967281) (hal:a.length<4294967281) (hbl:b.length<4294967281) (hG:jN w)
  (hn:jD a) (hz:(a==[48])=false) (hd:jD b) (hb0:(b==[48])=false) (hb1:(b==[49])=false) (hlen:600<a.length):Calls Tryz.prog 102 #[.string ⟨l.toArray⟩] w (qa 4 w):=by
 go_enter Tryz.func102,Tryz.ntmps102
 go_wp2_with fail
 refine(kY l dg true _ h1 h2).mono ?_;rintro e w' ⟨rfl,rfl⟩
 go_wp2_with fail
 refine(kZ dg a b true _ h3 hdl (hG.below ((Below.refl _ _).alloc (Nat.le_refl _) _))).mono ?_;rintro e w' ⟨rfl,n,rfl⟩
 go_wp2_with fail
 refine(ky a _ hn hal).mono ?_;rintro e w1 ⟨rfl,hB1⟩
 have hO1:=(((ja.make w 122 [.bool false,.slice none 0 0,.slice none 0 0]).drewN n).below hB1 (by simp))
 have hW1:Below w.heap.size w w1:=(below_drewN ((Below.refl w.heap.size w).alloc (Nat.le_refl _) _) n).trans (hB1.mono (by simp))
 go_wp2_with fail
 refine(ky b _ hd hbl).mono ?_;rintro e w2 ⟨rfl,hB2⟩;replace hO1:=hO1.below hB2 (hO1.lt);replace hW1:=hW1.trans (hB2.mono hW1.size);obtain⟨c0,c1,c2,f0,f1,f2⟩:=hO1.three
 go_wp2
 exact bodyPost_ret (v:= .tuple #[j6,.int .i64 4]) (by simp[results,Tryz.results102,go_sem,c0,c1,c2,j6]) rfl ⟨rfl,((hW1.setCell (by simp) _).setCell (by simp) _).setCell (by simp) _⟩
theorem Ci (l dg a b:List UInt8) (w:World) (h1:hasPrefix l [45]=true) (h2:trimPrefix l [45]=dg) (h3:cut dg [47]=(a,b,true)) (hdl:dg.length<4294967281) (hal:a.length<4294967281) (hbl:b.length<4294967281) (hG:jN w)
  (hn:jD a) (hz:(a==[48])=false) (hd:jD b) (hb0:(b==[48])=false) (hb1:(b==[49])=false) (hlen:a.length≤600) (hlen2:600<b.length):Calls Tryz.prog 102 #[.string ⟨l.toArray⟩] w (qa 4 w):=by
 go_enter Tryz.func102,Tryz.ntmps102
 go_wp2_with fail
 refine(kY l dg true _ h1 h2).mono ?_;rintro e w' ⟨rfl,rfl⟩
 go_wp2_with fail
 refine(kZ dg a b true _ h3 hdl (hG.below ((Below.refl _ _).alloc (Nat.le_refl _) _))).mono ?_;rintro e w' ⟨rfl,n,rfl⟩
 go_wp2_with fail
 refine(ky a _ hn hal).mono ?_;rintro e w1 ⟨rfl,hB1⟩
 have hO1:=(((ja.make w 122 [.bool false,.slice none 0 0,.slice none 0 0]).drewN n).below hB1 (by simp))
 have hW1:Below w.heap.size w w1:=(below_drewN ((Below.refl w.heap.size w).alloc (Nat.le_refl _) _) n).trans (hB1.mono (by simp))
 go_wp2_with fail
 refine(ky b _ hd hbl).mono ?_;rintro e w2 ⟨rfl,hB2⟩;replace hO1:=hO1.below hB2 (hO1.lt);replace hW1:=hW1.trans (hB2.mono hW1.size);obtain⟨c0,c1,c2,f0,f1,f2⟩:=hO1.three
 go_wp2
 exact bodyPost_ret (v:= .tuple #[j6,.int .i64 4]) (by simp[results,Tryz.results102,go_sem,c0,c1,c2,j6]) rfl ⟨rfl,((hW1.setCell (by simp) _).setCell (by simp) _).setCell (by simp) _⟩
theorem Cm (l dg a b:List UInt8) (w:World) (h1:hasPrefix l [45]=true) (h2:trimPrefix l [45]=dg) (h3:cut dg [47]=(a,b,false)) (hdl:dg.length<4294967281) (hal:a.length<4294967281) (hG:jN w)
  (hn:jD a) (hz:(a==[48])=false) (hlen:600<a.length):Calls Tryz.prog 102 #[.string ⟨l.toArray⟩] w (qa 4 w):=by
 go_enter Tryz.func102,Tryz.ntmps102
 go_wp2_with fail
 refine(kY l dg true _ h1 h2).mono ?_;rintro e w' ⟨rfl,rfl⟩
 go_wp2_with fail
 refine(kZ dg a b false _ h3 hdl (hG.below ((Below.refl _ _).alloc (Nat.le_refl _) _))).mono ?_;rintro e w' ⟨rfl,n,rfl⟩
 go_wp2_with fail
 refine(ky a _ hn hal).mono ?_;rintro e w1 ⟨rfl,hB1⟩
 have hO1:=(((ja.make w 122 [.bool false,.slice none 0 0,.slice none 0 0]).drewN n).below hB1 (by simp))
 have hW1:Below w.heap.size w w1:=(below_drewN ((Below.refl w.heap.size w).alloc (Nat.le_refl _) _) n).trans (hB1.mono (by simp));obtain⟨c0,c1,c2,f0,f1,f2⟩:=hO1.three
 go_wp2
 exact bodyPost_ret (v:= .tuple #[j6,.int .i64 4]) (by simp[results,Tryz.results102,go_sem,c0,c1,c2,j6]) rfl ⟨rfl,((hW1.setCell (by simp) _).setCell (by simp) _).setCell (by simp) _⟩
theorem B4 (l dg a b:List UInt8) (w:World) (h1:hasPrefix l [45]=false) (h2:trimPrefix l [45]=dg) (h3:cut dg [47]=(a,b,true)) (hdl:dg.length<4294967281) (hal:a.length<4294967281) (hbl:b.length<4294967281) (hG:jN w)
  (hn:jD a) (hd:¬jD b):Calls Tryz.prog 102 #[.string ⟨l.toArray⟩] w (qa 1 w):=by
 go_enter Tryz.func102,Tryz.ntmps102
 go_wp2_with fail
 refine(kY l dg false _ h1 h2).mono ?_;rintro e w' ⟨rfl,rfl⟩
 go_wp2_with fail
 refine(kZ dg a b true _ h3 hdl (hG.below ((Below.refl _ _).alloc (Nat.le_refl _) _))).mono ?_;rintro e w' ⟨rfl,n,rfl⟩
 go_wp2_with fail
 refine(ky a _ hn hal).mono ?_;rintro e w1 ⟨rfl,hB1⟩
 have hO1:=(((ja.make w 122 [.bool false,.slice none 0 0,.slice none 0 0]).drewN n).below hB1 (by simp))
 have hW1:Below w.heap.size w w1:=(below_drewN ((Below.refl w.heap.size w).alloc (Nat.le_refl _) _) n).trans (hB1.mono (by simp))
 go_wp2_with fail
 refine(J5 b _ hd hbl).mono ?_;rintro e w2 ⟨rfl,hB2⟩;replace hO1:=hO1.below hB2 (hO1.lt);replace hW1:=hW1.trans (hB2.mono hW1.size);obtain⟨c0,c1,c2,f0,f1,f2⟩:=hO1.three
 go_wp2
 exact bodyPost_ret (v:= .tuple #[j6,.int .i64 1]) (by simp[results,Tryz.results102,go_sem,c0,c1,c2,j6]) rfl ⟨rfl,((hW1.setCell (by simp) _).setCell (by simp) _).setCell (by simp) _⟩
theorem Cd (l dg a b:List UInt8) (w:World) (h1:hasPrefix l [45]=false) (h2:trimPrefix l [45]=dg) (h3:cut dg [47]=(a,b,true)) (hdl:dg.length<4294967281) (hal:a.length<4294967281) (hbl:b.length<4294967281) (hG:jN w)
  (hn:jD a) (hd:jD b) (hb:(b==[48])=true):Calls Tryz.prog 102 #[.string ⟨l.toArray⟩] w (qa 1 w):=by
 go_enter Tryz.func102,Tryz.ntmps102
 go_wp2_with fail
 refine(kY l dg false _ h1 h2).mono ?_;rintro e w' ⟨rfl,rfl⟩
 go_wp2_with fail
 refine(kZ dg a b true _ h3 hdl (hG.below ((Below.refl _ _).alloc (Nat.le_refl _) _))).mono ?_;rintro e w' ⟨rfl,n,rfl⟩
 go_wp2_with fail
 refine(ky a _ hn hal).mono ?_;rintro e w1 ⟨rfl,hB1⟩
 have hO1:=(((ja.make w 122 [.bool false,.slice none 0 0,.slice none 0 0]).drewN n).below hB1 (by simp))
 have hW1:Below w.heap.size w w1:=(below_drewN ((Below.refl w.heap.size w).alloc (Nat.le_refl _) _) n).trans (hB1.mono (by simp))
 go_wp2_with fail
 refine(ky b _ hd hbl).mono ?_;rintro e w2 ⟨rfl,hB2⟩;replace hO1:=hO1.below hB2 (hO1.lt);replace hW1:=hW1.trans (hB2.mono hW1.size);obtain⟨c0,c1,c2,f0,f1,f2⟩:=hO1.three
 go_wp2
 exact bodyPost_ret (v:= .tuple #[j6,.int .i64 1]) (by simp[results,Tryz.results102,go_sem,c0,c1,c2,j6]) rfl ⟨rfl,((hW1.setCell (by simp) _).setCell (by simp) _).setCell (by simp) _⟩
theorem Cf (l dg a b:List UInt8) (w:World) (h1:hasPrefix l [45]=false) (h2:trimPrefix l [45]=dg) (h3:cut dg [47]=(a,b,true)) (hdl:dg.length<4294967281) (hal:a.length<4294967281) (hbl:b.length<4294967281) (hG:jN w)
  (hn:jD a) (hd:jD b) (hb0:(b==[48])=false) (hb:(b==[49])=true):Calls Tryz.prog 102 #[.string ⟨l.toArray⟩] w (qa 1 w):=by
 go_enter Tryz.func102,Tryz.ntmps102
 go_wp2_with fail
 refine(kY l dg false _ h1 h2).mono ?_;rintro e w' ⟨rfl,rfl⟩
 go_wp2_with fail
 refine(kZ dg a b true _ h3 hdl (hG.below ((Below.refl _ _).alloc (Nat.le_refl _) _))).mono ?_;rintro e w' ⟨rfl,n,rfl⟩
 go_wp2_with fail
 refine(ky a _ hn hal).mono ?_;rintro e w1 ⟨rfl,hB1⟩
 have hO1:=(((ja.make w 122 [.bool false,.slice none 0 0,.slice none 0 0]).drewN n).below hB1 (by simp))
 have hW1:Below w.heap.size w w1:=(below_drewN ((Below.refl w.heap.size w).alloc (Nat.le_refl _) _) n).trans (hB1.mono (by simp))
 go_wp2_with fail
 refine(ky b _ hd hbl).mono ?_;rintro e w2 ⟨rfl,hB2⟩;replace hO1:=hO1.below hB2 (hO1.lt);replace hW1:=hW1.trans (hB2.mono hW1.size);obtain⟨c0,c1,c2,f0,f1,f2⟩:=hO1.three
 go_wp2
 exact bodyPost_ret (v:= .tuple #[j6,.int .i64 1]) (by simp[results,Tryz.results102,go_sem,c0,c1,c2,j6]) rfl ⟨rfl,((hW1.setCell (by simp) _).setCell (by simp) _).setCell (by simp) _⟩
theorem Cl (l dg a b:List UInt8) (w:World) (h1:hasPrefix l [45]=false) (h2:trimPrefix l [45]=dg) (h3:cut dg [47]=(a,b,true)) (hdl:dg.length<4294967281) (hal:a.length<4294967281) (hbl:b.length<4294967281) (hG:jN w)
  (hn:jD a) (hd:jD b) (hb0:(b==[48])=false) (hb1:(b==[49])=false) (hlen:600<a.length):Calls Tryz.prog 102 #[.string ⟨l.toArray⟩] w (qa 4 w):=by
 go_enter Tryz.func102,Tryz.ntmps102
 go_wp2_with fail
 refine(kY l dg false _ h1 h2).mono ?_;rintro e w' ⟨rfl,rfl⟩
 go_wp2_with fail
 refine(kZ dg a b true _ h3 hdl (hG.below ((Below.refl _ _).alloc (Nat.le_refl _) _))).mono ?_;rintro e w' ⟨rfl,n,rfl⟩
 go_wp2_with fail
 refine(ky a _ hn hal).mono ?_;rintro e w1 ⟨rfl,hB1⟩
 have hO1:=(((ja.make w 122 [.bool false,.slice none 0 0,.slice none 0 0]).drewN n).below hB1 (by simp))
 have hW1:Below w.heap.size w w1:=(below_drewN ((Below.refl w.heap.size w).alloc (Nat.le_refl _) _) n).trans (hB1.mono (by simp))
 go_wp2_with fail
 refine(ky b _ hd hbl).mono ?_;rintro e w2 ⟨rfl,hB2⟩;replace hO1:=hO1.below hB2 (hO1.lt);replace hW1:=hW1.trans (hB2.mono hW1.size);obtain⟨c0,c1,c2,f0,f1,f2⟩:=hO1.three
 go_wp2
 exact bodyPost_ret (v:= .tuple #[j6,.int .i64 4]) (by simp[results,Tryz.results102,go_sem,c0,c1,c2,j6]) rfl ⟨rfl,((hW1.setCell (by simp) _).setCell (by simp) _).setCell (by simp) _⟩
theorem Cj (l dg a b:List UInt8) (w:World) (h1:hasPrefix l [45]=false) (h2:trimPrefix l [45]=dg) (h3:cut dg [47]=(a,b,true)) (hdl:dg.length<4294967281) (hal:a.length<4294967281) (hbl:b.length<4294967281) (hG:jN w)
  (hn:jD a) (hd:jD b) (hb0:(b==[48])=false) (hb1:(b==[49])=false) (hlen:a.length≤600) (hlen2:600<b.length):Calls Tryz.prog 102 #[.string ⟨l.toArray⟩] w (qa 4 w):=by
 go_enter Tryz.func102,Tryz.ntmps102
 go_wp2_with fail
 refine(kY l dg false _ h1 h2).mono ?_;rintro e w' ⟨rfl,rfl⟩
 go_wp2_with fail
 refine(kZ dg a b true _ h3 hdl (hG.below ((Below.refl _ _).alloc (Nat.le_refl _) _))).mono ?_;rintro e w' ⟨rfl,n,rfl⟩
 go_wp2_with fail
 refine(ky a _ hn hal).mono ?_;rintro e w1 ⟨rfl,hB1⟩
 have hO1:=(((ja.make w 122 [.bool false,.slice none 0 0,.slice none 0 0]).drewN n).below hB1 (by simp))
 have hW1:Below w.heap.size w w1:=(below_drewN ((Below.refl w.heap.size w).alloc (Nat.le_refl _) _) n).trans (hB1.mono (by simp))
 go_wp2_with fail
 refine(ky b _ hd hbl).mono ?_;rintro e w2 ⟨rfl,hB2⟩;replace hO1:=hO1.below hB2 (hO1.lt);replace hW1:=hW1.trans (hB2.mono hW1.size);obtain⟨c0,c1,c2,f0,f1,f2⟩:=hO1.three
 go_wp2
 exact bodyPost_ret (v:= .tuple #[j6,.int .i64 4]) (by simp[results,Tryz.results102,go_sem,c0,c1,c2,j6]) rfl ⟨rfl,((hW1.setCell (by simp) _).setCell (by simp) _).setCell (by simp) _⟩
theorem Cn (l dg a b:List UInt8) (w:World) (h1:hasPrefix l [45]=false) (h2:trimPrefix l [45]=dg) (h3:cut dg [47]=(a,b,false)) (hdl:dg.length<4294967281) (hal:a.length<4294967281) (hG:jN w)
  (hn:jD a) (hlen:600<a.length):Calls Tryz.prog 102 #[.string ⟨l.toArray⟩] w (qa 4 w):=by
 go_enter Tryz.func102,Tryz.ntmps102
 go_wp2_with fail
 refine(kY l dg false _ h1 h2).mono ?_;rintro e w' ⟨rfl,rfl⟩
 go_wp2_with fail
 refine(kZ dg a b false _ h3 hdl (hG.below ((Below.refl _ _).alloc (Nat.le_refl _) _))).mono ?_;rintro e w' ⟨rfl,n,rfl⟩
 go_wp2_with fail
 refine(ky a _ hn hal).mono ?_;rintro e w1 ⟨rfl,hB1⟩
 have hO1:=(((ja.make w 122 [.bool false,.slice none 0 0,.slice none 0 0]).drewN n).below hB1 (by simp))
 have hW1:Below w.heap.size w w1:=(below_drewN ((Below.refl w.heap.size w).alloc (Nat.le_refl _) _) n).trans (hB1.mono (by simp));obtain⟨c0,c1,c2,f0,f1,f2⟩:=hO1.three
 go_wp2
 exact bodyPost_ret (v:= .tuple #[j6,.int .i64 4]) (by simp[results,Tryz.results102,go_sem,c0,c1,c2,j6]) rfl ⟨rfl,((hW1.setCell (by simp) _).setCell (by simp) _).setCell (by simp) _⟩
