/- Contract: the number that a text stands for; the texts with an error. -/
import Derived.Test.YtneafcdfnhnpnaaGreatDoorZK03
set_option maxRecDepth 100000
set_option maxHeartbeats 4000000
namespace Go.Proofs.YtneafcdfnhnpnaaGreatDoor
open Go.RowKit Go.Lib
def kZ (code:Int) (w:World) (e:Ending) (w':World):Prop:=e = .returned (.tuple #[jY,.int .i64 code])∧Below w.heap.size w w'
def Jb (q:Rat) (w:World) (e:Ending) (w':World):Prop:=∃v,e = .returned (.tuple #[v,.int .i64 0])∧Rt w' v q∧Below w.heap.size w w'
theorem Bi (l dg a b:List UInt8) (w:World) (h1:hasPrefix l [45]=true) (h2:trimPrefix l [45]=dg) (h3:cut dg [47]=(a,b,true)) (hdl:dg.length<4294967281) (hal:a.length<4294967281) (hG:jH w)
  (hn:¬jD a):Calls Tryz.prog 102 #[.string ⟨l.toArray⟩] w (kZ 1 w):=by
 go_enter Tryz.func102,Tryz.ntmps102
 go_wp2_with fail
 refine(kU l dg true _ h1 h2).mono ?_;rintro e w' ⟨rfl,rfl⟩
 go_wp2_with fail
 refine(kV dg a b true _ h3 hdl (hG.below ((Below.refl _ _).alloc (Nat.le_refl _) _))).mono ?_;rintro e w' ⟨rfl,n,rfl⟩
 go_wp2_with fail
 refine(J9 a _ hn hal).mono ?_;rintro e w1 ⟨rfl,hB1⟩
 have hO1:=(((ja.make w 122 [.bool false,.slice none 0 0,.slice none 0 0]).drewN n).below hB1 (by simp))
 have hW1:Below w.heap.size w w1:=(below_drewN ((Below.refl w.heap.size w).alloc (Nat.le_refl _) _) n).trans (hB1.mono (by simp));obtain⟨c0,c1,c2,f0,f1,f2⟩:=hO1.three
 go_wp2
 exact bodyPost_ret (v:= .tuple #[jY,.int .i64 1]) (by simp[results,Tryz.results102,go_sem,c0,c1,c2,jY]) rfl ⟨rfl,((hW1.setCell (by simp) _).setCell (by simp) _).setCell (by simp) _⟩
theorem Bj (l dg a b:List UInt8) (w:World) (h1:hasPrefix l [45]=true) (h2:trimPrefix l [45]=dg) (h3:cut dg [47]=(a,b,false)) (hdl:dg.length<4294967281) (hal:a.length<4294967281) (hG:jH w)
  (hn:¬jD a):Calls Tryz.prog 102 #[.string ⟨l.toArray⟩] w (kZ 1 w):=by
 go_enter Tryz.func102,Tryz.ntmps102
 go_wp2_with fail
 refine(kU l dg true _ h1 h2).mono ?_;rintro e w' ⟨rfl,rfl⟩
 go_wp2_with fail
 refine(kV dg a b false _ h3 hdl (hG.below ((Below.refl _ _).alloc (Nat.le_refl _) _))).mono ?_;rintro e w' ⟨rfl,n,rfl⟩
 go_wp2_with fail
 refine(J9 a _ hn hal).mono ?_;rintro e w1 ⟨rfl,hB1⟩
 have hO1:=(((ja.make w 122 [.bool false,.slice none 0 0,.slice none 0 0]).drewN n).below hB1 (by simp))
 have hW1:Below w.heap.size w w1:=(below_drewN ((Below.refl w.heap.size w).alloc (Nat.le_refl _) _) n).trans (hB1.mono (by simp));obtain⟨c0,c1,c2,f0,f1,f2⟩:=hO1.three
 go_wp2
 exact bodyPost_ret (v:= .tuple #[jY,.int .i64 1]) (by simp[results,Tryz.results102,go_sem,c0,c1,c2,jY]) rfl ⟨rfl,((hW1.setCell (by simp) _).setCell (by simp) _).setCell (by simp) _⟩
theorem Bk (l dg a b:List UInt8) (w:World) (h1:hasPrefix l [45]=false) (h2:trimPrefix l [45]=dg) (h3:cut dg [47]=(a,b,true)) (hdl:dg.length<4294967281) (hal:a.length<4294967281) (hG:jH w)
  (hn:¬jD a):Calls Tryz.prog 102 #[.string ⟨l.toArray⟩] w (kZ 1 w):=by
 go_enter Tryz.func102,Tryz.ntmps102
 go_wp2_with fail
 refine(kU l dg false _ h1 h2).mono ?_;rintro e w' ⟨rfl,rfl⟩
 go_wp2_with fail
 refine(kV dg a b true _ h3 hdl (hG.below ((Below.refl _ _).alloc (Nat.le_refl _) _))).mono ?_;rintro e w' ⟨rfl,n,rfl⟩
 go_wp2_with fail
 refine(J9 a _ hn hal).mono ?_;rintro e w1 ⟨rfl,hB1⟩
 have hO1:=(((ja.make w 122 [.bool false,.slice none 0 0,.slice none 0 0]).drewN n).below hB1 (by simp))
 have hW1:Below w.heap.size w w1:=(below_drewN ((Below.refl w.heap.size w).alloc (Nat.le_refl _) _) n).trans (hB1.mono (by simp));obtain⟨c0,c1,c2,f0,f1,f2⟩:=hO1.three
 go_wp2
 exact bodyPost_ret (v:= .tuple #[jY,.int .i64 1]) (by simp[results,Tryz.results102,go_sem,c0,c1,c2,jY]) rfl ⟨rfl,((hW1.setCell (by simp) _).setCell (by simp) _).setCell (by simp) _⟩
theorem Bl (l dg a b:List UInt8) (w:World) (h1:hasPrefix l [45]=false) (h2:trimPrefix l [45]=dg) (h3:cut dg [47]=(a,b,false)) (hdl:dg.length<4294967281) (hal:a.length<4294967281) (hG:jH w)
  (hn:¬jD a):Calls Tryz.prog 102 #[.string ⟨l.toArray⟩] w (kZ 1 w):=by
 go_enter Tryz.func102,Tryz.ntmps102
 go_wp2_with fail
 refine(kU l dg false _ h1 h2).mono ?_;rintro e w' ⟨rfl,rfl⟩
 go_wp2_with fail
 refine(kV dg a b false _ h3 hdl (hG.below ((Below.refl _ _).alloc (Nat.le_refl _) _))).mono ?_;rintro e w' ⟨rfl,n,rfl⟩
 go_wp2_with fail
 refine(J9 a _ hn hal).mono ?_;rintro e w1 ⟨rfl,hB1⟩
 have hO1:=(((ja.make w 122 [.bool false,.slice none 0 0,.slice none 0 0]).drewN n).below hB1 (by simp))
 have hW1:Below w.heap.size w w1:=(below_drewN ((Below.refl w.heap.size w).alloc (Nat.le_refl _) _) n).trans (hB1.mono (by simp));obtain⟨c0,c1,c2,f0,f1,f2⟩:=hO1.three
 go_wp2
 exact bodyPost_ret (v:= .tuple #[jY,.int .i64 1]) (by simp[results,Tryz.results102,go_sem,c0,c1,c2,jY]) rfl ⟨rfl,((hW1.setCell (by simp) _).setCell (by simp) _).setCell (by simp) _⟩
theorem BA (l dg a b:List UInt8) (w:World) (h1:hasPrefix l [45]=true) (h2:trimPrefix l [45]=dg) (h3:cut dg [47]=(a,b,true)) (hdl:dg.length<4294967281) (hal:a.length<4294967281) (hG:jH w)
  (hn:jD a) (hz:(a==[48])=true):Calls Tryz.prog 102 #[.string ⟨l.toArray⟩] w (kZ 1 w):=by
 go_enter Tryz.func102,Tryz.ntmps102
 go_wp2_with fail
 refine(kU l dg true _ h1 h2).mono ?_;rintro e w' ⟨rfl,rfl⟩
 go_wp2_with fail
 refine(kV dg a b true _ h3 hdl (hG.below ((Below.refl _ _).alloc (Nat.le_refl _) _))).mono ?_;rintro e w' ⟨rfl,n,rfl⟩
 go_wp2_with fail
 refine(kv a _ hn hal).mono ?_;rintro e w1 ⟨rfl,hB1⟩
 have hO1:=(((ja.make w 122 [.bool false,.slice none 0 0,.slice none 0 0]).drewN n).below hB1 (by simp))
 have hW1:Below w.heap.size w w1:=(below_drewN ((Below.refl w.heap.size w).alloc (Nat.le_refl _) _) n).trans (hB1.mono (by simp));obtain⟨c0,c1,c2,f0,f1,f2⟩:=hO1.three
 go_wp2
 exact bodyPost_ret (v:= .tuple #[jY,.int .i64 1]) (by simp[results,Tryz.results102,go_sem,c0,c1,c2,jY]) rfl ⟨rfl,((hW1.setCell (by simp) _).setCell (by simp) _).setCell (by simp) _⟩
theorem BB (l dg a b:List UInt8) (w:World) (h1:hasPrefix l [45]=true) (h2:trimPrefix l [45]=dg) (h3:cut dg [47]=(a,b,false)) (hdl:dg.length<4294967281) (hal:a.length<4294967281) (hG:jH w)
  (hn:jD a) (hz:(a==[48])=true):Calls Tryz.prog 102 #[.string ⟨l.toArray⟩] w (kZ 1 w):=by
 go_enter Tryz.func102,Tryz.ntmps102
 go_wp2_with fail
 refine(kU l dg true _ h1 h2).mono ?_;rintro e w' ⟨rfl,rfl⟩
 go_wp2_with fail
 refine(kV dg a b false _ h3 hdl (hG.below ((Below.refl _ _).alloc (Nat.le_refl _) _))).mono ?_;rintro e w' ⟨rfl,n,rfl⟩
 go_wp2_with fail
 refine(kv a _ hn hal).mono ?_;rintro e w1 ⟨rfl,hB1⟩
 have hO1:=(((ja.make w 122 [.bool false,.slice none 0 0,.slice none 0 0]).drewN n).below hB1 (by simp))
 have hW1:Below w.heap.size w w1:=(below_drewN ((Below.refl w.heap.size w).alloc (Nat.le_refl _) _) n).trans (hB1.mono (by simp));obtain⟨c0,c1,c2,f0,f1,f2⟩:=hO1.three
 go_wp2
 exact bodyPost_ret (v:= .tuple #[jY,.int .i64 1]) (by simp[results,Tryz.results102,go_sem,c0,c1,c2,jY]) rfl ⟨rfl,((hW1.setCell (by simp) _).setCell (by simp) _).setCell (by simp) _⟩
theorem Bg (l dg a b:List UInt8) (w:World) (h1:hasPrefix l [45]=true) (h2:trimPrefix l [45]=dg) (h3:cut dg [47]=(a,b,true)) (hdl:dg.length<4294967281) (hal:a.length<4294967281) (hbl:b.length<4294967281) (hG:jH w)
  (hn:jD a) (hz:(a==[48])=false) (hd:¬jD b):Calls Tryz.prog 102 #[.string ⟨l.toArray⟩] w (kZ 1 w):=by
 go_enter Tryz.func102,Tryz.ntmps102
 go_wp2_with fail
 refine(kU l dg true _ h1 h2).mono ?_;rintro e w' ⟨rfl,rfl⟩
 go_wp2_with fail
 refine(kV dg a b true _ h3 hdl (hG.below ((Below.refl _ _).alloc (Nat.le_refl _) _))).mono ?_;rintro e w' ⟨rfl,n,rfl⟩
 go_wp2_with fail
 refine(kv a _ hn hal).mono ?_;rintro e w1 ⟨rfl,hB1⟩
 have hO1:=(((ja.make w 122 [.bool false,.slice none 0 0,.slice none 0 0]).drewN n).below hB1 (by simp))
 have hW1:Below w.heap.size w w1:=(below_drewN ((Below.refl w.heap.size w).alloc (Nat.le_refl _) _) n).trans (hB1.mono (by simp))
 go_wp2_with fail
 refine(J9 b _ hd hbl).mono ?_;rintro e w2 ⟨rfl,hB2⟩;replace hO1:=hO1.below hB2 (hO1.lt);replace hW1:=hW1.trans (hB2.mono hW1.size);obtain⟨c0,c1,c2,f0,f1,f2⟩:=hO1.three
 go_wp2
 exact bodyPost_ret (v:= .tuple #[jY,.int .i64 1]) (by simp[results,Tryz.results102,go_sem,c0,c1,c2,jY]) rfl ⟨rfl,((hW1.setCell (by simp) _).setCell (by simp) _).setCell (by simp) _⟩
theorem Bm (l dg a b:List UInt8) (w:World) (h1:hasPrefix l [45]=true) (h2:trimPrefix l [45]=dg) (h3:cut dg [47]=(a,b,true)) (hdl:dg.length<4294967281) (hal:a.length<4294967281) (hbl:b.length<4294967281) (hG:jH w)
  (hn:jD a) (hz:(a==[48])=false) (hd:jD b) (hb:(b==[48])=true):Calls Tryz.prog 102 #[.string ⟨l.toArray⟩] w (kZ 1 w):=by
 go_enter Tryz.func102,Tryz.ntmps102
 go_wp2_with fail
 refine(kU l dg true _ h1 h2).mono ?_;rintro e w' ⟨rfl,rfl⟩
 go_wp2_with fail
 refine(kV dg a b true _ h3 hdl (hG.below ((Below.refl _ _).alloc (Nat.le_refl _) _))).mono ?_;rintro e w' ⟨rfl,n,rfl⟩
 go_wp2_with fail
 refine(kv a _ hn hal).mono ?_;rintro e w1 ⟨rfl,hB1⟩
 have hO1:=(((ja.make w 122 [.bool false,.slice none 0 0,.slice none 0 0]).drewN n).below hB1 (by simp))
 have hW1:Below w.heap.size w w1:=(below_drewN ((Below.refl w.heap.size w).alloc (Nat.le_refl _) _) n).trans (hB1.mono (by simp))
 go_wp2_with fail
 refine(kv b _ hd hbl).mono ?_;rintro e w2 ⟨rfl,hB2⟩;replace hO1:=hO1.below hB2 (hO1.lt);replace hW1:=hW1.trans (hB2.mono hW1.size);obtain⟨c0,c1,c2,f0,f1,f2⟩:=hO1.three
 go_wp2
 exact bodyPost_ret (v:= .tuple #[jY,.int .i64 1]) (by simp[results,Tryz.results102,go_sem,c0,c1,c2,jY]) rfl ⟨rfl,((hW1.setCell (by simp) _).setCell (by simp) _).setCell (by simp) _⟩
theorem Bo (l dg a b:List UInt8) (w:World) (h1:hasPrefix l [45]=true) (h2:trimPrefix l [45]=dg) (h3:cut dg [47]=(a,b,true)) (hdl:dg.length<4294967281) (hal:a.length<4294967281) (hbl:b.length<4294967281) (hG:jH w)
  (hn:jD a) (hz:(a==[48])=false) (hd:jD b) (hb0:(b==[48])=false) (hb:(b==[49])=true):Calls Tryz.prog 102 #[.string ⟨l.toArray⟩] w (kZ 1 w):=by
 go_enter Tryz.func102,Tryz.ntmps102
 go_wp2_with fail
 refine(kU l dg true _ h1 h2).mono ?_;rintro e w' ⟨rfl,rfl⟩
 go_wp2_with fail
 refine(kV dg a b true _ h3 hdl (hG.below ((Below.refl _ _).alloc (Nat.le_refl _) _))).mono ?_;rintro e w' ⟨rfl,n,rfl⟩
 go_wp2_with fail
 refine(kv a _ hn hal).mono ?_;rintro e w1 ⟨rfl,hB1⟩
 have hO1:=(((ja.make w 122 [.bool false,.slice none 0 0,.slice none 0 0]).drewN n).below hB1 (by simp))
 have hW1:Below w.heap.size w w1:=(below_drewN ((Below.refl w.heap.size w).alloc (Nat.le_refl _) _) n).trans (hB1.mono (by simp))
 go_wp2_with fail
 refine(kv b _ hd hbl).mono ?_;rintro e w2 ⟨rfl,hB2⟩;replace hO1:=hO1.below hB2 (hO1.lt);replace hW1:=hW1.trans (hB2.mono hW1.size);obtain⟨c0,c1,c2,f0,f1,f2⟩:=hO1.three
 go_wp2
 exact bodyPost_ret (v:= .tuple #[jY,.int .i64 1]) (by simp[results,Tryz.results102,go_sem,c0,c1,c2,jY]) rfl ⟨rfl,((hW1.setCell (by simp) _).setCell (by simp) _).setCell (by simp) _⟩
theorem Bv (l dg a b:List UInt8) (w:World) (h1:hasPrefix l [45]=true) (h2:trimPrefix l [45]=dg) (h3:cut dg [47]=(a,b,true)) (hdl:dg.length<4294967281) (hal:a.length<4294967281) (hbl:b.length<4294967281) (hG:jH w)
  (hn:jD a) (hz:(a==[48])=false) (hd:jD b) (hb0:(b==[48])=false) (hb1:(b==[49])=false) (hlen:600<a.length):Calls Tryz.prog 102 #[.string ⟨l.toArray⟩] w (kZ 4 w):=by
 go_enter Tryz.func102,Tryz.ntmps102
 go_wp2_with fail
 refine(kU l dg true _ h1 h2).mono ?_;rintro e w' ⟨rfl,rfl⟩
 go_wp2_with fail
 refine(kV dg a b true _ h3 hdl (hG.below ((Below.refl _ _).alloc (Nat.le_refl _) _))).mono ?_;rintro e w' ⟨rfl,n,rfl⟩
 go_wp2_with fail
 refine(kv a _ hn hal).mono ?_;rintro e w1 ⟨rfl,hB1⟩
 have hO1:=(((ja.make w 122 [.bool false,.slice none 0 0,.slice none 0 0]).drewN n).below hB1 (by simp))
 have hW1:Below w.heap.size w w1:=(below_drewN ((Below.refl w.heap.size w).alloc (Nat.le_refl _) _) n).trans (hB1.mono (by simp))
 go_wp2_with fail
 refine(kv b _ hd hbl).mono ?_;rintro e w2 ⟨rfl,hB2⟩;replace hO1:=hO1.below hB2 (hO1.lt);replace hW1:=hW1.trans (hB2.mono hW1.size);obtain⟨c0,c1,c2,f0,f1,f2⟩:=hO1.three
 go_wp2
 exact bodyPost_ret (v:= .tuple #[jY,.int .i64 4]) (by simp[results,Tryz.results102,go_sem,c0,c1,c2,jY]) rfl ⟨rfl,((hW1.setCell (by simp) _).setCell (by simp) _).setCell (by simp) _⟩
theorem Bt (l dg a b:List UInt8) (w:World) (h1:hasPrefix l [45]=true) (h2:trimPrefix l [45]=dg) (h3:cut dg [47]=(a,b,true)) (hdl:dg.length<4294967281) (hal:a.length<4294967281) (hbl:b.length<4294967281) (hG:jH w)
  (hn:jD a) (hz:(a==[48])=false) (hd:jD b) (hb0:(b==[48])=false) (hb1:(b==[49])=false) (hlen:a.length≤600) (hlen2:600<b.length):Calls Tryz.prog 102 #[.string ⟨l.toArray⟩] w (kZ 4 w):=by
 go_enter Tryz.func102,Tryz.ntmps102
 go_wp2_with fail
 refine(kU l dg true _ h1 h2).mono ?_;rintro e w' ⟨rfl,rfl⟩
 go_wp2_with fail
 refine(kV dg a b true _ h3 hdl (hG.below ((Below.refl _ _).alloc (Nat.le_refl _) _))).mono ?_;rintro e w' ⟨rfl,n,rfl⟩
 go_wp2_with fail
 refine(kv a _ hn hal).mono ?_;rintro e w1 ⟨rfl,hB1⟩
 have hO1:=(((ja.make w 122 [.bool false,.slice none 0 0,.slice none 0 0]).drewN n).below hB1 (by simp))
 have hW1:Below w.heap.size w w1:=(below_drewN ((Below.refl w.heap.size w).alloc (Nat.le_refl _) _) n).trans (hB1.mono (by simp))
 go_wp2_with fail
 refine(kv b _ hd hbl).mono ?_;rintro e w2 ⟨rfl,hB2⟩;replace hO1:=hO1.below hB2 (hO1.lt);replace hW1:=hW1.trans (hB2.mono hW1.size);obtain⟨c0,c1,c2,f0,f1,f2⟩:=hO1.three
 go_wp2
 exact bodyPost_ret (v:= .tuple #[jY,.int .i64 4]) (by simp[results,Tryz.results102,go_sem,c0,c1,c2,jY]) rfl ⟨rfl,((hW1.setCell (by simp) _).setCell (by simp) _).setCell (by simp) _⟩
theorem Bx (l dg a b:List UInt8) (w:World) (h1:hasPrefix l [45]=true) (h2:trimPrefix l [45]=dg) (h3:cut dg [47]=(a,b,false)) (hdl:dg.length<4294967281) (hal:a.length<4294967281) (hG:jH w)
  (hn:jD a) (hz:(a==[48])=false) (hlen:600<a.length):Calls Tryz.prog 102 #[.string ⟨l.toArray⟩] w (kZ 4 w):=by
 go_enter Tryz.func102,Tryz.ntmps102
 go_wp2_with fail
 refine(kU l dg true _ h1 h2).mono ?_;rintro e w' ⟨rfl,rfl⟩
 go_wp2_with fail
 refine(kV dg a b false _ h3 hdl (hG.below ((Below.refl _ _).alloc (Nat.le_refl _) _))).mono ?_;rintro e w' ⟨rfl,n,rfl⟩
 go_wp2_with fail
 refine(kv a _ hn hal).mono ?_;rintro e w1 ⟨rfl,hB1⟩
 have hO1:=(((ja.make w 122 [.bool false,.slice none 0 0,.slice none 0 0]).drewN n).below hB1 (by simp))
 have hW1:Below w.heap.size w w1:=(below_drewN ((Below.refl w.heap.size w).alloc (Nat.le_refl _) _) n).trans (hB1.mono (by simp));obtain⟨c0,c1,c2,f0,f1,f2⟩:=hO1.three
 go_wp2
 exact bodyPost_ret (v:= .tuple #[jY,.int .i64 4]) (by simp[results,Tryz.results102,go_sem,c0,c1,c2,jY]) rfl ⟨rfl,((hW1.setCell (by simp) _).setCell (by simp) _).setCell (by simp) _⟩
theorem Bh (l dg a b:List UInt8) (w:World) (h1:hasPrefix l [45]=false) (h2:trimPrefix l [45]=dg) (h3:cut dg [47]=(a,b,true)) (hdl:dg.length<4294967281) (hal:a.length<4294967281) (hbl:b.length<4294967281) (hG:jH w)
  (hn:jD a) (hd:¬jD b):Calls Tryz.prog 102 #[.string ⟨l.toArray⟩] w (kZ 1 w):=by
 go_enter Tryz.func102,Tryz.ntmps102
 go_wp2_with fail
 refine(kU l dg false _ h1 h2).mono ?_;rintro e w' ⟨rfl,rfl⟩
 go_wp2_with fail
 refine(kV dg a b true _ h3 hdl (hG.below ((Below.refl _ _).alloc (Nat.le_refl _) _))).mono ?_;rintro e w' ⟨rfl,n,rfl⟩
 go_wp2_with fail
 refine(kv a _ hn hal).mono ?_;rintro e w1 ⟨rfl,hB1⟩
 have hO1:=(((ja.make w 122 [.bool false,.slice none 0 0,.slice none 0 0]).drewN n).below hB1 (by simp))
 have hW1:Below w.heap.size w w1:=(below_drewN ((Below.refl w.heap.size w).alloc (Nat.le_refl _) _) n).trans (hB1.mono (by simp))
 go_wp2_with fail
 refine(J9 b _ hd hbl).mono ?_;rintro e w2 ⟨rfl,hB2⟩;replace hO1:=hO1.below hB2 (hO1.lt);replace hW1:=hW1.trans (hB2.mono hW1.size);obtain⟨c0,c1,c2,f0,f1,f2⟩:=hO1.three
 go_wp2
 exact bodyPost_ret (v:= .tuple #[jY,.int .i64 1]) (by simp[results,Tryz.results102,go_sem,c0,c1,c2,jY]) rfl ⟨rfl,((hW1.setCell (by simp) _).setCell (by simp) _).setCell (by simp) _⟩
theorem Bn (l dg a b:List UInt8) (w:World) (h1:hasPrefix l [45]=false) (h2:trimPrefix l [45]=dg) (h3:cut dg [47]=(a,b,true)) (hdl:dg.length<4294967281) (hal:a.length<4294967281) (hbl:b.length<4294967281) (hG:jH w)
  (hn:jD a) (hd:jD b) (hb:(b==[48])=true):Calls Tryz.prog 102 #[.string ⟨l.toArray⟩] w (kZ 1 w):=by
 go_enter Tryz.func102,Tryz.ntmps102
 go_wp2_with fail
 refine(kU l dg false _ h1 h2).mono ?_;rintro e w' ⟨rfl,rfl⟩
 go_wp2_with fail
 refine(kV dg a b true _ h3 hdl (hG.below ((Below.refl _ _).alloc (Nat.le_refl _) _))).mono ?_;rintro e w' ⟨rfl,n,rfl⟩
 go_wp2_with fail
 refine(kv a _ hn hal).mono ?_;rintro e w1 ⟨rfl,hB1⟩
 have hO1:=(((ja.make w 122 [.bool false,.slice none 0 0,.slice none 0 0]).drewN n).below hB1 (by simp))
 have hW1:Below w.heap.size w w1:=(below_drewN ((Below.refl w.heap.size w).alloc (Nat.le_refl _) _) n).trans (hB1.mono (by simp))
 go_wp2_with fail
 refine(kv b _ hd hbl).mono ?_;rintro e w2 ⟨rfl,hB2⟩;replace hO1:=hO1.below hB2 (hO1.lt);replace hW1:=hW1.trans (hB2.mono hW1.size);obtain⟨c0,c1,c2,f0,f1,f2⟩:=hO1.three
 go_wp2
 exact bodyPost_ret (v:= .tuple #[jY,.int .i64 1]) (by simp[results,Tryz.results102,go_sem,c0,c1,c2,jY]) rfl ⟨rfl,((hW1.setCell (by simp) _).setCell (by simp) _).setCell (by simp) _⟩
theorem Bq (l dg a b:List UInt8) (w:World) (h1:hasPrefix l [45]=false) (h2:trimPrefix l [45]=dg) (h3:cut dg [47]=(a,b,true)) (hdl:dg.length<4294967281) (hal:a.length<4294967281) (hbl:b.length<4294967281) (hG:jH w)
  (hn:jD a) (hd:jD b) (hb0:(b==[48])=false) (hb:(b==[49])=true):Calls Tryz.prog 102 #[.string ⟨l.toArray⟩] w (kZ 1 w):=by
 go_enter Tryz.func102,Tryz.ntmps102
 go_wp2_with fail
 refine(kU l dg false _ h1 h2).mono ?_;rintro e w' ⟨rfl,rfl⟩
 go_wp2_with fail
 refine(kV dg a b true _ h3 hdl (hG.below ((Below.refl _ _).alloc (Nat.le_refl _) _))).mono ?_;rintro e w' ⟨rfl,n,rfl⟩
 go_wp2_with fail
 refine(kv a _ hn hal).mono ?_;rintro e w1 ⟨rfl,hB1⟩
 have hO1:=(((ja.make w 122 [.bool false,.slice none 0 0,.slice none 0 0]).drewN n).below hB1 (by simp))
 have hW1:Below w.heap.size w w1:=(below_drewN ((Below.refl w.heap.size w).alloc (Nat.le_refl _) _) n).trans (hB1.mono (by simp))
 go_wp2_with fail
 refine(kv b _ hd hbl).mono ?_;rintro e w2 ⟨rfl,hB2⟩;replace hO1:=hO1.below hB2 (hO1.lt);replace hW1:=hW1.trans (hB2.mono hW1.size);obtain⟨c0,c1,c2,f0,f1,f2⟩:=hO1.three
 go_wp2
 exact bodyPost_ret (v:= .tuple #[jY,.int .i64 1]) (by simp[results,Tryz.results102,go_sem,c0,c1,c2,jY]) rfl ⟨rfl,((hW1.setCell (by simp) _).setCell (by simp) _).setCell (by simp) _⟩
theorem Bw (l dg a b:List UInt8) (w:World) (h1:hasPrefix l [45]=false) (h2:trimPrefix l [45]=dg) (h3:cut dg [47]=(a,b,true)) (hdl:dg.length<4294967281) (hal:a.length<4294967281) (hbl:b.length<4294967281) (hG:jH w)
  (hn:jD a) (hd:jD b) (hb0:(b==[48])=false) (hb1:(b==[49])=false) (hlen:600<a.length):Calls Tryz.prog 102 #[.string ⟨l.toArray⟩] w (kZ 4 w):=by
 go_enter Tryz.func102,Tryz.ntmps102
 go_wp2_with fail
 refine(kU l dg false _ h1 h2).mono ?_;rintro e w' ⟨rfl,rfl⟩
 go_wp2_with fail
 refine(kV dg a b true _ h3 hdl (hG.below ((Below.refl _ _).alloc (Nat.le_refl _) _))).mono ?_;rintro e w' ⟨rfl,n,rfl⟩
 go_wp2_with fail
 refine(kv a _ hn hal).mono ?_;rintro e w1 ⟨rfl,hB1⟩
 have hO1:=(((ja.make w 122 [.bool false,.slice none 0 0,.slice none 0 0]).drewN n).below hB1 (by simp))
 have hW1:Below w.heap.size w w1:=(below_drewN ((Below.refl w.heap.size w).alloc (Nat.le_refl _) _) n).trans (hB1.mono (by simp))
 go_wp2_with fail
 refine(kv b _ hd hbl).mono ?_;rintro e w2 ⟨rfl,hB2⟩;replace hO1:=hO1.below hB2 (hO1.lt);replace hW1:=hW1.trans (hB2.mono hW1.size);obtain⟨c0,c1,c2,f0,f1,f2⟩:=hO1.three
 go_wp2
 exact bodyPost_ret (v:= .tuple #[jY,.int .i64 4]) (by simp[results,Tryz.results102,go_sem,c0,c1,c2,jY]) rfl ⟨rfl,((hW1.setCell (by simp) _).setCell (by simp) _).setCell (by simp) _⟩
theorem Bu (l dg a b:List UInt8) (w:World) (h1:hasPrefix l [45]=false) (h2:trimPrefix l [45]=dg) (h3:cut dg [47]=(a,b,true)) (hdl:dg.length<4294967281) (hal:a.length<4294967281) (hbl:b.length<4294967281) (hG:jH w)
  (hn:jD a) (hd:jD b) (hb0:(b==[48])=false) (hb1:(b==[49])=false) (hlen:a.length≤600) (hlen2:600<b.length):Calls Tryz.prog 102 #[.string ⟨l.toArray⟩] w (kZ 4 w):=by
 go_enter Tryz.func102,Tryz.ntmps102
 go_wp2_with fail
 refine(kU l dg false _ h1 h2).mono ?_;rintro e w' ⟨rfl,rfl⟩
 go_wp2_with fail
 refine(kV dg a b true _ h3 hdl (hG.below ((Below.refl _ _).alloc (Nat.le_refl _) _))).mono ?_;rintro e w' ⟨rfl,n,rfl⟩
 go_wp2_with fail
 refine(kv a _ hn hal).mono ?_;rintro e w1 ⟨rfl,hB1⟩
 have hO1:=(((ja.make w 122 [.bool false,.slice none 0 0,.slice none 0 0]).drewN n).below hB1 (by simp))
 have hW1:Below w.heap.size w w1:=(below_drewN ((Below.refl w.heap.size w).alloc (Nat.le_refl _) _) n).trans (hB1.mono (by simp))
 go_wp2_with fail
 refine(kv b _ hd hbl).mono ?_;rintro e w2 ⟨rfl,hB2⟩;replace hO1:=hO1.below hB2 (hO1.lt);replace hW1:=hW1.trans (hB2.mono hW1.size);obtain⟨c0,c1,c2,f0,f1,f2⟩:=hO1.three
 go_wp2
 exact bodyPost_ret (v:= .tuple #[jY,.int .i64 4]) (by simp[results,Tryz.results102,go_sem,c0,c1,c2,jY]) rfl ⟨rfl,((hW1.setCell (by simp) _).setCell (by simp) _).setCell (by simp) _⟩
theorem Bz (l dg a b:List UInt8) (w:World) (h1:hasPrefix l [45]=false) (h2:trimPrefix l [45]=dg) (h3:cut dg [47]=(a,b,false)) (hdl:dg.length<4294967281) (hal:a.length<4294967281) (hG:jH w)
  (hn:jD a) (hlen:600<a.length):Calls Tryz.prog 102 #[.string ⟨l.toArray⟩] w (kZ 4 w):=by
 go_enter Tryz.func102,Tryz.ntmps102
 go_wp2_with fail
 refine(kU l dg false _ h1 h2).mono ?_;rintro e w' ⟨rfl,rfl⟩
 go_wp2_with fail
 refine(kV dg a b false _ h3 hdl (hG.below ((Below.refl _ _).alloc (Nat.le_refl _) _))).mono ?_;rintro e w' ⟨rfl,n,rfl⟩
 go_wp2_with fail
 refine(kv a _ hn hal).mono ?_;rintro e w1 ⟨rfl,hB1⟩
 have hO1:=(((ja.make w 122 [.bool false,.slice none 0 0,.slice none 0 0]).drewN n).below hB1 (by simp))
 have hW1:Below w.heap.size w w1:=(below_drewN ((Below.refl w.heap.size w).alloc (Nat.le_refl _) _) n).trans (hB1.mono (by simp));obtain⟨c0,c1,c2,f0,f1,f2⟩:=hO1.three
 go_wp2
 exact bodyPost_ret (v:= .tuple #[jY,.int .i64 4]) (by simp[results,Tryz.results102,go_sem,c0,c1,c2,jY]) rfl ⟨rfl,((hW1.setCell (by simp) _).setCell (by simp) _).setCell (by simp) _⟩
theorem Si {l:List UInt8} (h:jW l) (h0:l≠[]) (h1:l.head? ≠some 48):jf l≠0:=by
 cases l with
 | nil=>exact absurd rfl h0
 | cons c r=>
  have e:=Jr [c] r;rw[show jf [c]=c.toNat-48 from by rw[jf,zy,yY];omega] at e;have h2:=h c (by simp)
  have h3:c.toNat≠48:=by
   intro hc;apply h1;simp only[List.head?_cons]
   congr 1
   exact UInt8.toNat_inj.1 hc
  have h4:1*10^r.length≤(c.toNat-48)*10^r.length:=Nat.mul_le_mul_right _ (by omega);have h5:1≤10^r.length:=Nat.one_le_pow _ _ (by decide);have h6:[c]++r=c::r:=rfl;rw[h6] at e;omega
theorem Xn {l:List UInt8} (h:jD l) (h0:(l==[48])=false):jf l≠0:=by
 rcases h.2 with h1 | ⟨h1,h2⟩
 ·rw[h1] at h0;simp at h0
 ·exact Si h.1 h1 h2
theorem BG (l dg a b:List UInt8) (w:World) (h1:hasPrefix l [45]=true) (h2:trimPrefix l [45]=dg) (h3:cut dg [47]=(a,b,false)) (hdl:dg.length<4294967281) (hal:a.length<4294967281) (hG:jH w) (hDa:ql a.length)
  (hn:jD a) (hz:(a==[48])=false) (hb:b=[]) (hlen:a.length≤600):Calls Tryz.prog 102 #[.string ⟨l.toArray⟩] w (Jb (jV true (jf a) 1) w):=by
 go_enter Tryz.func102,Tryz.ntmps102
 go_wp2_with fail
 refine(kU l dg true _ h1 h2).mono ?_;rintro e w' ⟨rfl,rfl⟩
 go_wp2_with fail
 refine(kV dg a b false _ h3 hdl (hG.below ((Below.refl _ _).alloc (Nat.le_refl _) _))).mono ?_;rintro e w' ⟨rfl,n,rfl⟩
 go_wp2_with fail
 refine(kv a _ hn hal).mono ?_;rintro e w1 ⟨rfl,hB1⟩
 have hO1:=(((ja.make w 122 [.bool false,.slice none 0 0,.slice none 0 0]).drewN n).below hB1 (by simp))
 have hW1:Below w.heap.size w w1:=(below_drewN ((Below.refl w.heap.size w).alloc (Nat.le_refl _) _) n).trans (hB1.mono (by simp));have Hb:=hid hb;clear hb
 go_wp2_with fail
 refine(zd a _ hn.1 (by omega) hDa).mono ?_;rintro e w2 ⟨nv,rfl,hnv,hB2⟩
 have hO2:=(hO1.below hB2 hO1.lt)
 have hW2:=hW1.trans (hB2.mono hW1.size);have hnv2:=hnv.below ((Below.refl _ w2).alloc (Nat.le_refl _) (.cells #[.int .u64 1] 148));have hO3:=hO2.alloc (.cells #[.int .u64 1] 148);have hone:=Nt.one w2 148;obtain⟨c0,c1,c2,f0,f1,f2⟩:=hO3.three
 have hR:Rt ((((w2.alloc (.cells #[.int .u64 1] 148)).setCell ⟨w.heap.size,0,none⟩ (.bool true)).setCell ⟨w.heap.size,1,none⟩ nv).setCell ⟨w.heap.size,2,none⟩ (.slice (some ⟨w2.heap.size,0,none⟩) 1 1)) (.agg #[.bool true,nv,.slice (some ⟨w2.heap.size,0,none⟩) 1 1]) (jV true (jf a) 1):=
  Rt.mk_ (by decide) (Nat.gcd_one_right _) (fun _=>Xn hn hz) (hnv2.put3 hO3 (js _) (jq _ _ _) (jq _ _ _) (js _) hnv.noInt) (hone.put3 hO3 (js _) (jq _ _ _) (jq _ _ _) (js _) hnv.noInt)
 obtain⟨A,m,c,hnvs,hm⟩:=hnv.size_;have HR:=hid hR;clear hR hone hnv hnv2;subst hnvs
 go_wp2
 exact bodyPost_ret (v:= .tuple #[.agg #[.bool true,.slice A m c,.slice (some ⟨w2.heap.size,0,none⟩) 1 1],.int .i64 0]) (by simp[results,Tryz.results102,go_sem,c0,c1,c2]) rfl ⟨_,rfl,HR.out,(((hW2.alloc hW2.size _).setCell (by simp) _).setCell (by simp) _).setCell (by simp) _⟩
theorem BI (l dg a b:List UInt8) (w:World) (h1:hasPrefix l [45]=false) (h2:trimPrefix l [45]=dg) (h3:cut dg [47]=(a,b,false)) (hdl:dg.length<4294967281) (hal:a.length<4294967281) (hG:jH w) (hDa:ql a.length)
  (hn:jD a) (hb:b=[]) (hlen:a.length≤600):Calls Tryz.prog 102 #[.string ⟨l.toArray⟩] w (Jb (jV false (jf a) 1) w):=by
 go_enter Tryz.func102,Tryz.ntmps102
 go_wp2_with fail
 refine(kU l dg false _ h1 h2).mono ?_;rintro e w' ⟨rfl,rfl⟩
 go_wp2_with fail
 refine(kV dg a b false _ h3 hdl (hG.below ((Below.refl _ _).alloc (Nat.le_refl _) _))).mono ?_;rintro e w' ⟨rfl,n,rfl⟩
 go_wp2_with fail
 refine(kv a _ hn hal).mono ?_;rintro e w1 ⟨rfl,hB1⟩
 have hO1:=(((ja.make w 122 [.bool false,.slice none 0 0,.slice none 0 0]).drewN n).below hB1 (by simp))
 have hW1:Below w.heap.size w w1:=(below_drewN ((Below.refl w.heap.size w).alloc (Nat.le_refl _) _) n).trans (hB1.mono (by simp));have Hb:=hid hb;clear hb
 go_wp2_with fail
 refine(zd a _ hn.1 (by omega) hDa).mono ?_;rintro e w2 ⟨nv,rfl,hnv,hB2⟩
 have hO2:=(hO1.below hB2 hO1.lt)
 have hW2:=hW1.trans (hB2.mono hW1.size);have hnv2:=hnv.below ((Below.refl _ w2).alloc (Nat.le_refl _) (.cells #[.int .u64 1] 148));have hO3:=hO2.alloc (.cells #[.int .u64 1] 148);have hone:=Nt.one w2 148;obtain⟨c0,c1,c2,f0,f1,f2⟩:=hO3.three
 have hR:Rt ((((w2.alloc (.cells #[.int .u64 1] 148)).setCell ⟨w.heap.size,0,none⟩ (.bool false)).setCell ⟨w.heap.size,1,none⟩ nv).setCell ⟨w.heap.size,2,none⟩ (.slice (some ⟨w2.heap.size,0,none⟩) 1 1)) (.agg #[.bool false,nv,.slice (some ⟨w2.heap.size,0,none⟩) 1 1]) (jV false (jf a) 1):=
  Rt.mk_ (by decide) (Nat.gcd_one_right _) (fun h=>by cases h) (hnv2.put3 hO3 (js _) (jq _ _ _) (jq _ _ _) (js _) hnv.noInt) (hone.put3 hO3 (js _) (jq _ _ _) (jq _ _ _) (js _) hnv.noInt)
 obtain⟨A,m,c,hnvs,hm⟩:=hnv.size_;have HR:=hid hR;clear hR hone hnv hnv2;subst hnvs
 go_wp2
 exact bodyPost_ret (v:= .tuple #[.agg #[.bool false,.slice A m c,.slice (some ⟨w2.heap.size,0,none⟩) 1 1],.int .i64 0]) (by simp[results,Tryz.results102,go_sem,c0,c1,c2]) rfl ⟨_,rfl,HR.out,(((hW2.alloc hW2.size _).setCell (by simp) _).setCell (by simp) _).setCell (by simp) _⟩
theorem BC (l dg a b:List UInt8) (w:World) (h1:hasPrefix l [45]=true) (h2:trimPrefix l [45]=dg) (h3:cut dg [47]=(a,b,true)) (hdl:dg.length<4294967281) (hal:a.length<4294967281) (hbl:b.length<4294967281) (hG:jH w) (hDa:ql a.length) (hDb:ql b.length)
  (hn:jD a) (hz:(a==[48])=false) (hd:jD b) (hb0:(b==[48])=false) (hb1:(b==[49])=false) (hlen:a.length≤600) (hlen2:b.length≤600) (hg:decide (Nat.gcd (jf a) (jf b)=1)=false):Calls Tryz.prog 102 #[.string ⟨l.toArray⟩] w (kZ 1 w):=by
 go_enter Tryz.func102,Tryz.ntmps102
 go_wp2_with fail
 refine(kU l dg true _ h1 h2).mono ?_;rintro e w' ⟨rfl,rfl⟩
 go_wp2_with fail
 refine(kV dg a b true _ h3 hdl (hG.below ((Below.refl _ _).alloc (Nat.le_refl _) _))).mono ?_;rintro e w' ⟨rfl,n,rfl⟩
 go_wp2_with fail
 refine(kv a _ hn hal).mono ?_;rintro e w1 ⟨rfl,hB1⟩
 have hO1:=(((ja.make w 122 [.bool false,.slice none 0 0,.slice none 0 0]).drewN n).below hB1 (by simp))
 have hW1:Below w.heap.size w w1:=(below_drewN ((Below.refl w.heap.size w).alloc (Nat.le_refl _) _) n).trans (hB1.mono (by simp))
 go_wp2_with fail
 refine(kv b _ hd hbl).mono ?_;rintro e w2 ⟨rfl,hB2⟩;replace hO1:=hO1.below hB2 (hO1.lt);replace hW1:=hW1.trans (hB2.mono hW1.size)
 go_wp2_with fail
 refine(zd a _ hn.1 (by omega) hDa).mono ?_;rintro e w3 ⟨nv,rfl,hnv,hB3⟩
 go_wp2_with fail
 refine(zd b _ hd.1 (by omega) hDb).mono ?_;rintro e w4 ⟨dv,rfl,hdv,hB4⟩;have hnv4:=hnv.below hB4;have hO4:=(hO1.below hB3 hO1.lt).below hB4 (Nat.lt_of_lt_of_le hO1.lt hB3.size);have hW4:=(hW1.trans (hB3.mono hW1.size)).trans (hB4.mono (Nat.le_trans hW1.size hB3.size));obtain⟨A,m,c,hnvs,hm⟩:=hnv4.size_;obtain⟨A2,m2,c2,hdvs,hm2⟩:=hdv.size_;have Hnv:=hid hnv4;have Hdv:=hid hdv;clear hnv hdv hnv4;subst hnvs hdvs;have hb5:Below w4.heap.size w4 (w4.alloc (.cells #[.bool true,.slice A m c,.slice A2 m2 c2] 122)):=(Below.refl _ _).alloc (Nat.le_refl _) _;have hO5:=ja.make w4 122 [.bool true,.slice A m c,.slice A2 m2 c2];have HO6:=hid (hO4.alloc (.cells #[.bool true,.slice A m c,.slice A2 m2 c2] 122));have hfa:=hid (jl.of_pow (qG hn.1) hDa (by omega));have hfb:=hid (jl.of_pow (qG hd.1) hDb (by omega))
 go_wp2_with fail
 refine(zZ _ _ (jf a) (jf b) _ (Hnv.out.below hb5) (Hdv.out.below hb5) hfa.out hfb.out).mono ?_;rintro e w5 ⟨gv,rfl,hgv,hB5⟩
 go_wp2_with fail
 refine(kS _ _ _ hgv).mono ?_;rintro e w6 ⟨rfl,rfl⟩;rw[hg]
 have hs5:w4.heap.size<w5.heap.size:=by have:=hB5.size;simp at this;omega
 have hO7:=HO6.out.below hB5 (by have:=hO4.lt;simp;omega);obtain⟨c0,c1,c2',f0,f1,f2⟩:=hO7.three;have hW5:=hW4.trans ((hb5.trans (hB5.mono hb5.size)).mono hW4.size)
 go_wp2
 exact bodyPost_ret (v:= .tuple #[jY,.int .i64 1]) (by simp[results,Tryz.results102,go_sem,c0,c1,c2',jY]) rfl ⟨rfl,((hW5.setCell (by simp) _).setCell (by simp) _).setCell (by simp) _⟩
theorem Br (l dg a b:List UInt8) (w:World) (h1:hasPrefix l [45]=true) (h2:trimPrefix l [45]=dg) (h3:cut dg [47]=(a,b,true)) (hdl:dg.length<4294967281) (hal:a.length<4294967281) (hbl:b.length<4294967281) (hG:jH w) (hDa:ql a.length) (hDb:ql b.length)
  (hn:jD a) (hz:(a==[48])=false) (hd:jD b) (hb0:(b==[48])=false) (hb1:(b==[49])=false) (hlen:a.length≤600) (hlen2:b.length≤600) (hg:decide (Nat.gcd (jf a) (jf b)=1)=true):Calls Tryz.prog 102 #[.string ⟨l.toArray⟩] w (Jb (jV true (jf a) (jf b)) w):=by
 go_enter Tryz.func102,Tryz.ntmps102
 go_wp2_with fail
 refine(kU l dg true _ h1 h2).mono ?_;rintro e w' ⟨rfl,rfl⟩
 go_wp2_with fail
 refine(kV dg a b true _ h3 hdl (hG.below ((Below.refl _ _).alloc (Nat.le_refl _) _))).mono ?_;rintro e w' ⟨rfl,n,rfl⟩
 go_wp2_with fail
 refine(kv a _ hn hal).mono ?_;rintro e w1 ⟨rfl,hB1⟩
 have hO1:=(((ja.make w 122 [.bool false,.slice none 0 0,.slice none 0 0]).drewN n).below hB1 (by simp))
 have hW1:Below w.heap.size w w1:=(below_drewN ((Below.refl w.heap.size w).alloc (Nat.le_refl _) _) n).trans (hB1.mono (by simp))
 go_wp2_with fail
 refine(kv b _ hd hbl).mono ?_;rintro e w2 ⟨rfl,hB2⟩;replace hO1:=hO1.below hB2 (hO1.lt);replace hW1:=hW1.trans (hB2.mono hW1.size)
 go_wp2_with fail
 refine(zd a _ hn.1 (by omega) hDa).mono ?_;rintro e w3 ⟨nv,rfl,hnv,hB3⟩
 go_wp2_with fail
 refine(zd b _ hd.1 (by omega) hDb).mono ?_;rintro e w4 ⟨dv,rfl,hdv,hB4⟩;have hnv4:=hnv.below hB4;have hO4:=(hO1.below hB3 hO1.lt).below hB4 (Nat.lt_of_lt_of_le hO1.lt hB3.size);have hW4:=(hW1.trans (hB3.mono hW1.size)).trans (hB4.mono (Nat.le_trans hW1.size hB3.size));obtain⟨A,m,c,hnvs,hm⟩:=hnv4.size_;obtain⟨A2,m2,c2,hdvs,hm2⟩:=hdv.size_;have Hnv:=hid hnv4;have Hdv:=hid hdv;clear hnv hdv hnv4;subst hnvs hdvs;have hb5:Below w4.heap.size w4 (w4.alloc (.cells #[.bool true,.slice A m c,.slice A2 m2 c2] 122)):=(Below.refl _ _).alloc (Nat.le_refl _) _;have hO5:=ja.make w4 122 [.bool true,.slice A m c,.slice A2 m2 c2];have HO6:=hid (hO4.alloc (.cells #[.bool true,.slice A m c,.slice A2 m2 c2] 122));have hfa:=hid (jl.of_pow (qG hn.1) hDa (by omega));have hfb:=hid (jl.of_pow (qG hd.1) hDb (by omega))
 go_wp2_with fail
 refine(zZ _ _ (jf a) (jf b) _ (Hnv.out.below hb5) (Hdv.out.below hb5) hfa.out hfb.out).mono ?_;rintro e w5 ⟨gv,rfl,hgv,hB5⟩
 go_wp2_with fail
 refine(kS _ _ _ hgv).mono ?_;rintro e w6 ⟨rfl,rfl⟩;rw[hg]
 have hs5:w4.heap.size<w5.heap.size:=by have:=hB5.size;simp at this;omega
 have hO7:=HO6.out.below hB5 (by have:=hO4.lt;simp;omega);have hO8:=hO5.below hB5 (by simp);obtain⟨c0,c1,c2',f0,f1,f2⟩:=hO7.three;obtain⟨d0,d1,d2,_,_,_⟩:=hO8.three;have hW5:=hW4.trans ((hb5.trans (hB5.mono hb5.size)).mono hW4.size)
 have hR0:Rt w5 (.agg #[.bool true,.slice A m c,.slice A2 m2 c2]) (jV true (jf a) (jf b)):=
  Rt.mk_ (Xn hd hb0) (of_decide_eq_true hg) (fun _=>Xn hn hz) ((Hnv.out.below hb5).below hB5) ((Hdv.out.below hb5).below hB5)
 have HR:=hid (hR0.put3 (a':= .bool true) (b':= .slice A m c) (c':= .slice A2 m2 c2) hO7 (js _) (jq _ _ _) (jq _ _ _) (js _) (jq _ _ _));clear hR0
 go_wp2
 exact bodyPost_ret (v:= .tuple #[.agg #[.bool true,.slice A m c,.slice A2 m2 c2],.int .i64 0]) (by simp[results,Tryz.results102,go_sem,c0,c1,c2']) rfl ⟨_,rfl,HR.out,((hW5.setCell (by simp) _).setCell (by simp) _).setCell (by simp) _⟩
theorem BE (l dg a b:List UInt8) (w:World) (h1:hasPrefix l [45]=false) (h2:trimPrefix l [45]=dg) (h3:cut dg [47]=(a,b,true)) (hdl:dg.length<4294967281) (hal:a.length<4294967281) (hbl:b.length<4294967281) (hG:jH w) (hDa:ql a.length) (hDb:ql b.length)
  (hn:jD a) (hd:jD b) (hb0:(b==[48])=false) (hb1:(b==[49])=false) (hlen:a.length≤600) (hlen2:b.length≤600) (hg:decide (Nat.gcd (jf a) (jf b)=1)=false):Calls Tryz.prog 102 #[.string ⟨l.toArray⟩] w (kZ 1 w):=by
 go_enter Tryz.func102,Tryz.ntmps102
 go_wp2_with fail
 refine(kU l dg false _ h1 h2).mono ?_;rintro e w' ⟨rfl,rfl⟩
 go_wp2_with fail
 refine(kV dg a b true _ h3 hdl (hG.below ((Below.refl _ _).alloc (Nat.le_refl _) _))).mono ?_;rintro e w' ⟨rfl,n,rfl⟩
 go_wp2_with fail
 refine(kv a _ hn hal).mono ?_;rintro e w1 ⟨rfl,hB1⟩
 have hO1:=(((ja.make w 122 [.bool false,.slice none 0 0,.slice none 0 0]).drewN n).below hB1 (by simp))
 have hW1:Below w.heap.size w w1:=(below_drewN ((Below.refl w.heap.size w).alloc (Nat.le_refl _) _) n).trans (hB1.mono (by simp))
 go_wp2_with fail
 refine(kv b _ hd hbl).mono ?_;rintro e w2 ⟨rfl,hB2⟩;replace hO1:=hO1.below hB2 (hO1.lt);replace hW1:=hW1.trans (hB2.mono hW1.size)
 go_wp2_with fail
 refine(zd a _ hn.1 (by omega) hDa).mono ?_;rintro e w3 ⟨nv,rfl,hnv,hB3⟩
 go_wp2_with fail
 refine(zd b _ hd.1 (by omega) hDb).mono ?_;rintro e w4 ⟨dv,rfl,hdv,hB4⟩;have hnv4:=hnv.below hB4;have hO4:=(hO1.below hB3 hO1.lt).below hB4 (Nat.lt_of_lt_of_le hO1.lt hB3.size);have hW4:=(hW1.trans (hB3.mono hW1.size)).trans (hB4.mono (Nat.le_trans hW1.size hB3.size));obtain⟨A,m,c,hnvs,hm⟩:=hnv4.size_;obtain⟨A2,m2,c2,hdvs,hm2⟩:=hdv.size_;have Hnv:=hid hnv4;have Hdv:=hid hdv;clear hnv hdv hnv4;subst hnvs hdvs;have hb5:Below w4.heap.size w4 (w4.alloc (.cells #[.bool false,.slice A m c,.slice A2 m2 c2] 122)):=(Below.refl _ _).alloc (Nat.le_refl _) _;have hO5:=ja.make w4 122 [.bool false,.slice A m c,.slice A2 m2 c2];have HO6:=hid (hO4.alloc (.cells #[.bool false,.slice A m c,.slice A2 m2 c2] 122));have hfa:=hid (jl.of_pow (qG hn.1) hDa (by omega));have hfb:=hid (jl.of_pow (qG hd.1) hDb (by omega))
 go_wp2_with fail
 refine(zZ _ _ (jf a) (jf b) _ (Hnv.out.below hb5) (Hdv.out.below hb5) hfa.out hfb.out).mono ?_;rintro e w5 ⟨gv,rfl,hgv,hB5⟩
 go_wp2_with fail
 refine(kS _ _ _ hgv).mono ?_;rintro e w6 ⟨rfl,rfl⟩;rw[hg]
 have hs5:w4.heap.size<w5.heap.size:=by have:=hB5.size;simp at this;omega
 have hO7:=HO6.out.below hB5 (by have:=hO4.lt;simp;omega);obtain⟨c0,c1,c2',f0,f1,f2⟩:=hO7.three;have hW5:=hW4.trans ((hb5.trans (hB5.mono hb5.size)).mono hW4.size)
 go_wp2
 exact bodyPost_ret (v:= .tuple #[jY,.int .i64 1]) (by simp[results,Tryz.results102,go_sem,c0,c1,c2',jY]) rfl ⟨rfl,((hW5.setCell (by simp) _).setCell (by simp) _).setCell (by simp) _⟩
theorem Bs (l dg a b:List UInt8) (w:World) (h1:hasPrefix l [45]=false) (h2:trimPrefix l [45]=dg) (h3:cut dg [47]=(a,b,true)) (hdl:dg.length<4294967281) (hal:a.length<4294967281) (hbl:b.length<4294967281) (hG:jH w) (hDa:ql a.length) (hDb:ql b.length)
  (hn:jD a) (hd:jD b) (hb0:(b==[48])=false) (hb1:(b==[49])=false) (hlen:a.length≤600) (hlen2:b.length≤600) (hg:decide (Nat.gcd (jf a) (jf b)=1)=true):Calls Tryz.prog 102 #[.string ⟨l.toArray⟩] w (Jb (jV false (jf a) (jf b)) w):=by
 go_enter Tryz.func102,Tryz.ntmps102
 go_wp2_with fail
 refine(kU l dg false _ h1 h2).mono ?_;rintro e w' ⟨rfl,rfl⟩
 go_wp2_with fail
 refine(kV dg a b true _ h3 hdl (hG.below ((Below.refl _ _).alloc (Nat.le_refl _) _))).mono ?_;rintro e w' ⟨rfl,n,rfl⟩
 go_wp2_with fail
 refine(kv a _ hn hal).mono ?_;rintro e w1 ⟨rfl,hB1⟩
 have hO1:=(((ja.make w 122 [.bool false,.slice none 0 0,.slice none 0 0]).drewN n).below hB1 (by simp))
 have hW1:Below w.heap.size w w1:=(below_drewN ((Below.refl w.heap.size w).alloc (Nat.le_refl _) _) n).trans (hB1.mono (by simp))
 go_wp2_with fail
 refine(kv b _ hd hbl).mono ?_;rintro e w2 ⟨rfl,hB2⟩;replace hO1:=hO1.below hB2 (hO1.lt);replace hW1:=hW1.trans (hB2.mono hW1.size)
 go_wp2_with fail
 refine(zd a _ hn.1 (by omega) hDa).mono ?_;rintro e w3 ⟨nv,rfl,hnv,hB3⟩
 go_wp2_with fail
 refine(zd b _ hd.1 (by omega) hDb).mono ?_;rintro e w4 ⟨dv,rfl,hdv,hB4⟩;have hnv4:=hnv.below hB4;have hO4:=(hO1.below hB3 hO1.lt).below hB4 (Nat.lt_of_lt_of_le hO1.lt hB3.size);have hW4:=(hW1.trans (hB3.mono hW1.size)).trans (hB4.mono (Nat.le_trans hW1.size hB3.size));obtain⟨A,m,c,hnvs,hm⟩:=hnv4.size_;obtain⟨A2,m2,c2,hdvs,hm2⟩:=hdv.size_;have Hnv:=hid hnv4;have Hdv:=hid hdv;clear hnv hdv hnv4;subst hnvs hdvs;have hb5:Below w4.heap.size w4 (w4.alloc (.cells #[.bool false,.slice A m c,.slice A2 m2 c2] 122)):=(Below.refl _ _).alloc (Nat.le_refl _) _;have hO5:=ja.make w4 122 [.bool false,.slice A m c,.slice A2 m2 c2];have HO6:=hid (hO4.alloc (.cells #[.bool false,.slice A m c,.slice A2 m2 c2] 122));have hfa:=hid (jl.of_pow (qG hn.1) hDa (by omega));have hfb:=hid (jl.of_pow (qG hd.1) hDb (by omega))
 go_wp2_with fail
 refine(zZ _ _ (jf a) (jf b) _ (Hnv.out.below hb5) (Hdv.out.below hb5) hfa.out hfb.out).mono ?_;rintro e w5 ⟨gv,rfl,hgv,hB5⟩
 go_wp2_with fail
 refine(kS _ _ _ hgv).mono ?_;rintro e w6 ⟨rfl,rfl⟩;rw[hg]
 have hs5:w4.heap.size<w5.heap.size:=by have:=hB5.size;simp at this;omega
 have hO7:=HO6.out.below hB5 (by have:=hO4.lt;simp;omega);have hO8:=hO5.below hB5 (by simp);obtain⟨c0,c1,c2',f0,f1,f2⟩:=hO7.three;obtain⟨d0,d1,d2,_,_,_⟩:=hO8.three;have hW5:=hW4.trans ((hb5.trans (hB5.mono hb5.size)).mono hW4.size)
 have hR0:Rt w5 (.agg #[.bool false,.slice A m c,.slice A2 m2 c2]) (jV false (jf a) (jf b)):=
  Rt.mk_ (Xn hd hb0) (of_decide_eq_true hg) (fun h=>by cases h) ((Hnv.out.below hb5).below hB5) ((Hdv.out.below hb5).below hB5)
 have HR:=hid (hR0.put3 (a':= .bool false) (b':= .slice A m c) (c':= .slice A2 m2 c2) hO7 (js _) (jq _ _ _) (jq _ _ _) (js _) (jq _ _ _));clear hR0
 go_wp2
 exact bodyPost_ret (v:= .tuple #[.agg #[.bool false,.slice A m c,.slice A2 m2 c2],.int .i64 0]) (by simp[results,Tryz.results102,go_sem,c0,c1,c2']) rfl ⟨_,rfl,HR.out,((hW5.setCell (by simp) _).setCell (by simp) _).setCell (by simp) _⟩
instance (l:List UInt8):Decidable (jW l):=by unfold jW;infer_instance
instance (l:List UInt8):Decidable (jD l):=by unfold jD;infer_instance
def Kk (neg:Bool) (a b:List UInt8) (f:Bool):Int×Rat:=
 if ¬jD a∨(neg=true∧a=[48]) then (1,0)
 else if f=true then
  if ¬jD b∨b=[48]∨b=[49] then (1,0)
  else if 600<a.length∨600<b.length then (4,0)
  else if Nat.gcd (jf a) (jf b)=1 then (0,jV neg (jf a) (jf b)) else (1,0)
 else if 600<a.length then (4,0) else (0,jV neg (jf a) 1)
def jn (l:List UInt8):Int×Rat:=Kk (hasPrefix l [45]) (cut (trimPrefix l [45]) [47]).1 (cut (trimPrefix l [45]) [47]).2.1 (cut (trimPrefix l [45]) [47]).2.2
def ze (r:Int×Rat) (w:World) (e:Ending) (w':World):Prop:=if r.1=0 then Jb r.2 w e w' else kZ r.1 w e w'
theorem Xx {q:Rat} {w:World} {e:Ending} {w':World} (h:Jb q w e w'):ze (0,q) w e w':=by unfold ze;rw[if_pos rfl];exact h
theorem qD {c:Int} {w:World} {e:Ending} {w':World} (hc:c≠0) (h:kZ c w e w'):ze (c,0) w e w':=by unfold ze;rw[if_neg hc];exact h
theorem Sa (dg a b:List UInt8) (h:cut dg [47]=(a,b,false)):b=[]:=by
 unfold cut at h;split at h
 ·simp at h
 ·simp at h;exact h.2
theorem R6 (dg a b:List UInt8) (f:Bool) (h:cut dg [47]=(a,b,f)):a.length≤dg.length∧b.length≤dg.length:=by
 unfold cut at h;split at h
 ·simp only[Prod.mk.injEq] at h
  obtain⟨h1,h2,_⟩:=h;subst h1 h2;constructor
  ·rw[List.length_take];omega
  ·rw[List.length_drop];omega
 ·simp only[Prod.mk.injEq] at h
  obtain⟨h1,h2,_⟩:=h;subst h1 h2
  simp
theorem ZN (l:List UInt8):(trimPrefix l [45]).length≤l.length:=by
 unfold trimPrefix;split
 ·rw[List.length_drop];omega
 ·exact Nat.le_refl _
theorem BF (l dg a b:List UInt8) (neg f:Bool) (w:World) (h1:hasPrefix l [45]=neg) (h2:trimPrefix l [45]=dg) (h3:cut dg [47]=(a,b,f)) (hdl:dg.length<4294967281) (hG:jH w) (hD:ql dg.length):
  Calls Tryz.prog 102 #[.string ⟨l.toArray⟩] w (ze (Kk neg a b f) w):=by
 obtain⟨ha,hb⟩:=R6 dg a b f h3
 have hal:a.length<4294967281:=by omega
 have hbl:b.length<4294967281:=by omega
 unfold Kk;by_cases hn:jD a
 ·by_cases hz:neg=true∧a=[48]
  ·rw[if_pos (.inr hz)]
   obtain⟨rfl,hz⟩:=hz
   have hz':(a==[48])=true:=by simpa using hz
   cases f with
   | true=>exact(BA l dg a b w h1 h2 h3 hdl hal hG hn hz').mono fun _ _ h=>qD (by decide) h
   | false=>exact(BB l dg a b w h1 h2 h3 hdl hal hG hn hz').mono fun _ _ h=>qD (by decide) h
  ·rw[if_neg (by rintro (h | h);exact h hn;exact hz h)]
   cases f with
   | false=>
    rw[if_neg (by simp)];have hbn:=Sa dg a b h3;by_cases hlen:600<a.length
    ·rw[if_pos hlen]
     cases neg with
     | true=>exact(Bx l dg a b w h1 h2 h3 hdl hal hG hn (by simpa using hz) hlen).mono fun _ _ h=>qD (by decide) h
     | false=>exact(Bz l dg a b w h1 h2 h3 hdl hal hG hn hlen).mono fun _ _ h=>qD (by decide) h
    ·rw[if_neg hlen]
     cases neg with
     | true=>exact(BG l dg a b w h1 h2 h3 hdl hal hG (hD.le ha) hn (by simpa using hz) hbn (by omega)).mono fun _ _ h=>Xx h
     | false=>exact(BI l dg a b w h1 h2 h3 hdl hal hG (hD.le ha) hn hbn (by omega)).mono fun _ _ h=>Xx h
   | true=>
    rw[if_pos rfl];by_cases hd:jD b
    ·by_cases h48:b=[48]
     ·rw[if_pos (.inr (.inl h48))]
      have h48':(b==[48])=true:=by simpa using h48
      cases neg with
      | true=>exact(Bm l dg a b w h1 h2 h3 hdl hal hbl hG hn (by simpa using hz) hd h48').mono fun _ _ h=>qD (by decide) h
      | false=>exact(Bn l dg a b w h1 h2 h3 hdl hal hbl hG hn hd h48').mono fun _ _ h=>qD (by decide) h
     ·have h48':(b==[48])=false:=by simpa using h48
      by_cases h49:b=[49]
      ·rw[if_pos (.inr (.inr h49))]
       have h49':(b==[49])=true:=by simpa using h49
       cases neg with
       | true=>exact(Bo l dg a b w h1 h2 h3 hdl hal hbl hG hn (by simpa using hz) hd h48' h49').mono fun _ _ h=>qD (by decide) h
       | false=>exact(Bq l dg a b w h1 h2 h3 hdl hal hbl hG hn hd h48' h49').mono fun _ _ h=>qD (by decide) h
      ·have h49':(b==[49])=false:=by simpa using h49
       rw[if_neg (by rintro (h | h | h);exact h hd;exact h48 h;exact h49 h)];by_cases hla:600<a.length
       ·rw[if_pos (.inl hla)]
        cases neg with
        | true=>exact(Bv l dg a b w h1 h2 h3 hdl hal hbl hG hn (by simpa using hz) hd h48' h49' hla).mono fun _ _ h=>qD (by decide) h
        | false=>exact(Bw l dg a b w h1 h2 h3 hdl hal hbl hG hn hd h48' h49' hla).mono fun _ _ h=>qD (by decide) h
       ·by_cases hlb:600<b.length
        ·rw[if_pos (.inr hlb)]
         cases neg with
         | true=>exact(Bt l dg a b w h1 h2 h3 hdl hal hbl hG hn (by simpa using hz) hd h48' h49' (by omega) hlb).mono fun _ _ h=>qD (by decide) h
         | false=>exact(Bu l dg a b w h1 h2 h3 hdl hal hbl hG hn hd h48' h49' (by omega) hlb).mono fun _ _ h=>qD (by decide) h
        ·rw[if_neg (by omega)]
         by_cases hg:Nat.gcd (jf a) (jf b)=1
         ·rw[if_pos hg]
          cases neg with
          | true=>exact(Br l dg a b w h1 h2 h3 hdl hal hbl hG (hD.le ha) (hD.le hb) hn (by simpa using hz) hd h48' h49' (by omega) (by omega) (decide_eq_true hg)).mono fun _ _ h=>Xx h
          | false=>exact(Bs l dg a b w h1 h2 h3 hdl hal hbl hG (hD.le ha) (hD.le hb) hn hd h48' h49' (by omega) (by omega) (decide_eq_true hg)).mono fun _ _ h=>Xx h
         ·rw[if_neg hg]
          cases neg with
          | true=>exact(BC l dg a b w h1 h2 h3 hdl hal hbl hG (hD.le ha) (hD.le hb) hn (by simpa using hz) hd h48' h49' (by omega) (by omega) (decide_eq_false hg)).mono fun _ _ h=>qD (by decide) h
          | false=>exact(BE l dg a b w h1 h2 h3 hdl hal hbl hG (hD.le ha) (hD.le hb) hn hd h48' h49' (by omega) (by omega) (decide_eq_false hg)).mono fun _ _ h=>qD (by decide) h
    ·rw[if_pos (.inl hd)]
     cases neg with
     | true=>exact(Bg l dg a b w h1 h2 h3 hdl hal hbl hG hn (by simpa using hz) hd).mono fun _ _ h=>qD (by decide) h
     | false=>exact(Bh l dg a b w h1 h2 h3 hdl hal hbl hG hn hd).mono fun _ _ h=>qD (by decide) h
 ·rw[if_pos (.inl hn)]
  cases neg with
  | true=>cases f with
   | true=>exact(Bi l dg a b w h1 h2 h3 hdl hal hG hn).mono fun _ _ h=>qD (by decide) h
   | false=>exact(Bj l dg a b w h1 h2 h3 hdl hal hG hn).mono fun _ _ h=>qD (by decide) h
  | false=>cases f with
   | true=>exact(Bk l dg a b w h1 h2 h3 hdl hal hG hn).mono fun _ _ h=>qD (by decide) h
   | false=>exact(Bl l dg a b w h1 h2 h3 hdl hal hG hn).mono fun _ _ h=>qD (by decide) h
theorem WW (l:List UInt8) (w:World) (hl:l.length<4294967281) (hG:jH w) (hD:ql l.length):
  Calls Tryz.prog 102 #[.string ⟨l.toArray⟩] w (ze (jn l) w):=
 BF l _ _ _ _ _ w rfl rfl rfl (Nat.lt_of_le_of_lt (ZN l) hl) hG (hD.le (ZN l))
end Go.Proofs.YtneafcdfnhnpnaaGreatDoor
namespace Go.Proofs.YtneafcdfnhnpnaaGreatDoor
def sg (neg:Bool) (n:Nat):Int:=if neg then -(n:Int) else n
theorem NQ (neg:Bool) (n d:Nat):(if neg then mkRat (-(n:Int)) d else mkRat n d)=mkRat (sg neg n) d:=by cases neg <;> rfl
theorem Cv (a b:Bool) (n m:Nat):sg a n*sg b m=sg ((a != b)&&decide (0<n*m)) (n*m):=by
 by_cases h:n*m=0
 ·rw[h]
  simp only[Nat.lt_irrefl,decide_false,Bool.and_false];rcases Nat.mul_eq_zero.1 h with rfl | rfl
  ·cases a <;> simp[sg]
  ·cases b <;> simp[sg]
 ·rw[decide_eq_true (Nat.pos_of_ne_zero h),Bool.and_true]
  cases a <;> cases b <;> simp[sg,Int.neg_mul,Int.mul_neg]
theorem XG (a:Bool) (n k:Nat):sg a (n*k)=sg a n*k:=by cases a <;> simp[sg,Int.neg_mul]
theorem NW (n d m e:Nat) (hd:d≠0) (he:e≠0) (h1:Nat.gcd n d=1) (h2:Nat.gcd m e=1):
  Nat.gcd ((n/Nat.gcd n e)*(m/Nat.gcd m d)) ((d/Nat.gcd m d)*(e/Nat.gcd n e))=1:=by
 have c1:Nat.Coprime n d:=h1;have c2:Nat.Coprime m e:=h2
 show Nat.Coprime _ _
 rw[Nat.coprime_mul_iff_left,Nat.coprime_mul_iff_right,Nat.coprime_mul_iff_right];refine⟨⟨?_,?_⟩,⟨?_,?_⟩⟩
 ·exact(c1.coprime_div_left (Nat.gcd_dvd_left ..)).coprime_div_right (Nat.gcd_dvd_right ..)
 ·exact Nat.coprime_div_gcd_div_gcd (Nat.gcd_pos_of_pos_right _ (by omega))
 ·exact Nat.coprime_div_gcd_div_gcd (Nat.gcd_pos_of_pos_right _ (by omega))
 ·exact(c2.coprime_div_left (Nat.gcd_dvd_left ..)).coprime_div_right (Nat.gcd_dvd_right ..)
theorem NV (a b:Bool) (n d m e:Nat) (hd:d≠0) (he:e≠0):
  mkRat (sg a n) d*mkRat (sg b m) e=mkRat (sg ((a != b)&&decide (0<(n/Nat.gcd n e)*(m/Nat.gcd m d))) ((n/Nat.gcd n e)*(m/Nat.gcd m d))) ((d/Nat.gcd m d)*(e/Nat.gcd n e)):=by
 have g1:0<Nat.gcd n e:=Nat.gcd_pos_of_pos_right _ (by omega);have g2:0<Nat.gcd m d:=Nat.gcd_pos_of_pos_right _ (by omega);rw[←Cv,Rat.mkRat_mul_mkRat];have e1:n=(n/Nat.gcd n e)*Nat.gcd n e:=(Nat.div_mul_cancel (Nat.gcd_dvd_left n e)).symm;have e2:e=(e/Nat.gcd n e)*Nat.gcd n e:=(Nat.div_mul_cancel (Nat.gcd_dvd_right n e)).symm;have e3:m=(m/Nat.gcd m d)*Nat.gcd m d:=(Nat.div_mul_cancel (Nat.gcd_dvd_left m d)).symm;have e4:d=(d/Nat.gcd m d)*Nat.gcd m d:=(Nat.div_mul_cancel (Nat.gcd_dvd_right m d)).symm;generalize Nat.gcd n e=p at *;generalize Nat.gcd m d=q at *;generalize n/p=n' at *;generalize e/p=e' at *;generalize m/q=m' at *;generalize d/q=d' at *;subst e1 e2 e3 e4;rw[XG,XG]
 have r1:sg a n'*(p:Int)*(sg b m'*(q:Int))=sg a n'*sg b m'*((p*q:Nat):Int):=by
  rw[Int.natCast_mul];simp only[Int.mul_assoc,Int.mul_left_comm]
 have r2:d'*q*(e'*p)=d'*e'*(p*q):=by
  simp only[Nat.mul_left_comm,Nat.mul_comm]
 rw[r1,r2];exact Rat.mkRat_mul_right (Nat.mul_ne_zero (by omega) (by omega))
