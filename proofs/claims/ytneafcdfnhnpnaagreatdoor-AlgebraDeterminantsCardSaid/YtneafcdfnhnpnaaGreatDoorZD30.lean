/- Contracts of the reference: sums and products of integers. -/
import Derived.Test.YtneafcdfnhnpnaaGreatDoorZD28
set_option maxRecDepth 100000
set_option maxHeartbeats 8000000
namespace Go.Proofs.YtneafcdfnhnpnaaGreatDoor
open Go.RowKit Go.Lib
theorem Xw {w:World} {v:Value} {x:Int} (h:Ri w v x):∃b n dv,v = .agg #[.bool b,dv]∧x=sg b n∧n=x.natAbs∧Dg w dv n:=by
 obtain⟨dv,rfl,hd⟩:=h.dg;refine⟨decide (x<0),x.natAbs,dv,rfl,?_,rfl,hd⟩;unfold sg;by_cases h:x<0
 ·rw[decide_eq_true h,if_pos rfl];omega
 ·rw[decide_eq_false h,if_neg (by simp)];omega
theorem Dg.slice {w:World} {v:Value} {x:Nat} (h:Dg w v x) (hx:jP x):∃ws A c,v = .slice A ws.length c∧jb ws=x∧jF ws∧ws.length≤1000000∧jB w (.slice A ws.length c) (jo ws):=by
 obtain⟨ws,A,c,rfl,h1,h2,h3,h4,h5,h6⟩:=h.open_;exact⟨ws,A,c,rfl,h1,h2,hx.len h3 h1,h6⟩
def P3 (w W:World) (na nb:Bool) (dv ev:Value):Prop:=
 Below w.heap.size w W∧W.heap.size=w.heap.size+3∧ja W w.heap.size 127 [.bool na,dv]∧ja W (w.heap.size+1) 127 [.bool nb,ev]∧ja W (w.heap.size+1+1) 127 [.bool false,.slice none 0 0]
theorem P3.mk (w:World) (na nb:Bool) (dv ev:Value):P3 w (((w.alloc (.cells #[.bool na,dv] 127)).alloc (.cells #[.bool nb,ev] 127)).alloc (.cells #[.bool false,.slice none 0 0] 127)) na nb dv ev:=by
 refine⟨(((Below.refl _ _).alloc (Nat.le_refl _) _).alloc (by simp) _).alloc (by simp;omega) _,by simp,((ja.make w _ [.bool na,dv]).alloc _).alloc _,?_,?_⟩
 ·have:=ja.make (w.alloc (.cells #[.bool na,dv] 127)) 127 [.bool nb,ev]
  simp only[World.size_alloc] at this;exact this.alloc _
 ·have:=ja.make ((w.alloc (.cells #[.bool na,dv] 127)).alloc (.cells #[.bool nb,ev] 127)) 127 [.bool false,.slice none 0 0]
  simp only[World.size_alloc] at this;exact this
def S3 (w:World) (na nb:Bool) (dv ev:Value) (x:World):Prop:=
 x.cell? ⟨w.heap.size,0,none⟩=some (.bool na)∧x.cell? ⟨w.heap.size,1,none⟩=some dv∧x.cell? ⟨w.heap.size+1,0,none⟩=some (.bool nb)∧x.cell? ⟨w.heap.size+1,1,none⟩=some ev∧w.heap.size+2<x.heap.size∧Below w.heap.size w x
theorem S3.start {w W:World} {na nb:Bool} {dv ev:Value} (h:P3 w W na nb dv ev):S3 w na nb dv ev W:=⟨h.2.2.1.cell 0,h.2.2.1.cell 1,h.2.2.2.1.cell 0,h.2.2.2.1.cell 1,by have:=h.2.1;omega,h.1⟩
theorem S3.call {w x x':World} {na nb:Bool} {dv ev:Value} (hb:Below x.heap.size x x') (h:S3 w na nb dv ev x):S3 w na nb dv ev x':=by
 obtain⟨h1,h2,h3,h4,h5,h6⟩:=h;exact⟨(hb.cell (p:=⟨w.heap.size,0,none⟩) (by simp;omega)).trans h1,(hb.cell (p:=⟨w.heap.size,1,none⟩) (by simp;omega)).trans h2,(hb.cell (p:=⟨w.heap.size+1,0,none⟩) (by simp;omega)).trans h3,(hb.cell (p:=⟨w.heap.size+1,1,none⟩) (by simp;omega)).trans h4,Nat.lt_of_lt_of_le h5 hb.size,h6.trans (hb.mono h6.size)⟩
theorem S3.put {w x:World} {na nb:Bool} {dv ev:Value} (a b:Value) (h:S3 w na nb dv ev x):S3 w na nb dv ev ((x.setCell ⟨w.heap.size+1+1,0,none⟩ a).setCell ⟨w.heap.size+1+1,1,none⟩ b):=by
 obtain⟨h1,h2,h3,h4,h5,h6⟩:=h
 have o0:∀(b i:Nat) (x:World) (u:Value) (j:Nat),b≠w.heap.size+1+1→(x.setCell ⟨w.heap.size+1+1,j,none⟩ u).cell? ⟨b,i,none⟩=x.cell? ⟨b,i,none⟩:=fun b i x u j hb=>World.cell?_setCell_other _ _ _ _ (by intro e;injection e with e1;exact hb e1.symm)
 refine⟨?_,?_,?_,?_,by simpa using h5,(h6.setCell (by simp;omega) _).setCell (by simp;omega) _⟩
 ·rw[o0 _ _ _ _ _ (by omega),o0 _ _ _ _ _ (by omega)];exact h1
 ·rw[o0 _ _ _ _ _ (by omega),o0 _ _ _ _ _ (by omega)];exact h2
 ·rw[o0 _ _ _ _ _ (by omega),o0 _ _ _ _ _ (by omega)];exact h3
 ·rw[o0 _ _ _ _ _ (by omega),o0 _ _ _ _ _ (by omega)];exact h4
theorem S3.drew {w x:World} {na nb:Bool} {dv ev:Value} (h:S3 w na nb dv ev x):S3 w na nb dv ev x.drew:=⟨h.1,h.2.1,h.2.2.1,h.2.2.2.1,h.2.2.2.2.1,h.2.2.2.2.2.drew⟩
theorem S3.all {w x:World} {na nb:Bool} {dv ev:Value} (h:S3 w na nb dv ev x):x.cell? ⟨w.heap.size,0,none⟩=some (.bool na)∧x.cell? ⟨w.heap.size,1,none⟩=some dv∧x.cell? ⟨w.heap.size+1,0,none⟩=some (.bool nb)∧x.cell? ⟨w.heap.size+1,1,none⟩=some ev∧w.heap.size+2<x.heap.size∧Below w.heap.size w x:=h
theorem Lc (dv ev:Value) (X Y:Nat) (w:World) (h1:Dg w dv X) (h2:Dg w ev Y) (bX:jP X) (bY:jP Y):
  Calls Tryz.prog 119 #[.agg #[.bool true,dv],.agg #[.bool true,ev]] w (kQ (sg false (X*Y)) w):=by
 obtain⟨ps,A,c,rfl,e1,o1,l1,s1⟩:=h1.slice bX;obtain⟨qs,B,d,rfl,e2,o2,l2,s2⟩:=h2.slice bY
 obtain⟨W0,hW0⟩:∃W0,W0=((w.alloc (.cells #[.bool true,.slice A ps.length c] 127)).alloc (.cells #[.bool true,.slice B qs.length d] 127)).alloc (.cells #[.bool false,.slice none 0 0] 127):=⟨_,rfl⟩
 have hP:P3 w W0 true true (.slice A ps.length c) (.slice B qs.length d):=by rw[hW0];exact P3.mk w true true _ _
 have F1:Hid (∀W,Below w.heap.size w W→Calls Tryz.prog 187 #[.slice A ps.length c,.slice B qs.length d] W (zV (X*Y) W)):=hid (fun W hb=>(J9 _ _ X Y W (h1.below hb) (h2.below hb) bX bY).mono fun e w' h=>by
  obtain⟨v,rfl,⟨ws,q1,q2,q3,q4⟩,hB⟩:=h
  exact⟨v,ws,rfl,q1,q2,q4,hB⟩)
 have KS:=hid (S3.start hP);have hR0:=hid hP.2.2.2.2;clear h1 h2 s1 s2 hP o1 o2 l1 l2 e1 e2 bX bY;generalize ps.length=n at *;generalize qs.length=m at *;obtain⟨a0,a1,b0,b1,hsz,hbl⟩:=KS.out.all;go_enter Tryz.func119,Tryz.ntmps119
 go_upto_region 1 with fail
 rw[←hW0];clear hW0
 go_wp2_with fail
 go_region_held3 (fun x=>x.cell? ⟨w.heap.size,0,none⟩=some (.bool true)∧x.cell? ⟨w.heap.size,1,none⟩=some (.slice A n c)∧x.cell? ⟨w.heap.size+1,0,none⟩=some (.bool true)∧x.cell? ⟨w.heap.size+1,1,none⟩=some (.slice B m d)∧w.heap.size+2<x.heap.size∧Below w.heap.size w x)
  (first | exact KS.out.drew.all | exact(KS.out.call (by assumption)).drew.all | (go_split_ands;exact S3.all (S3.call (by assumption) ⟨by assumption,by assumption,by assumption,by assumption,by assumption,by assumption⟩)) | (go_split_ands;exact S3.all (S3.put _ _ ⟨by assumption,by assumption,by assumption,by assumption,by assumption,by assumption⟩)))
  (first
   | (go_at_call 187;go_split_ands;refine(F1.out _ (by assumption)).mono ?_;rintro e3 w3 ⟨lv,L,rfl,hLv,hLo,hLs,hB3⟩;have hR3:=qy hB3 hR0)
   | (go_at_call 183;go_split_ands;refine(xB false lv L _ hLo hLs).mono ?_;rintro e4 w4 ⟨rv,rfl,hri,hB4⟩;have hR4:=qy hB4 hR3;obtain⟨r0,r1,k0,k1⟩:=hR4.out.two;obtain⟨RA,rn,rc,rfl,hr1,hr2⟩:=hri.open_))
 rw[hLv] at hri;have HRF:=hid (hri.put2 (a':= .bool (decide (sg false (X*Y)<0))) (b':= .slice RA rn rc) hR4.out (js _) (jq _ _ _) (js _));have HBF:Hid (Below w.heap.size w ((w4.setCell ⟨w.heap.size+1+1,0,none⟩ (.bool (decide (sg false (X*Y)<0)))).setCell ⟨w.heap.size+1+1,1,none⟩ (.slice RA rn rc))):=hid (by go_split_ands;assumption)
 go_wp2
 obtain⟨z0,z1,_,_⟩:=(hR4.out.set2 (a':= .bool (decide (sg false (X*Y)<0))) (b':= .slice RA rn rc)).two;exact bodyPost_ret (v:= .agg #[.bool (decide (sg false (X*Y)<0)),.slice RA rn rc]) (by simp[results,Tryz.results119,go_sem,z0,z1]) rfl ⟨_,rfl,HRF.out,HBF.out⟩
theorem Lb (dv ev:Value) (X Y:Nat) (w:World) (h1:Dg w dv X) (h2:Dg w ev Y) (bX:jP X) (bY:jP Y):
  Calls Tryz.prog 119 #[.agg #[.bool true,dv],.agg #[.bool false,ev]] w (kQ (sg true (X*Y)) w):=by
 obtain⟨ps,A,c,rfl,e1,o1,l1,s1⟩:=h1.slice bX;obtain⟨qs,B,d,rfl,e2,o2,l2,s2⟩:=h2.slice bY
 obtain⟨W0,hW0⟩:∃W0,W0=((w.alloc (.cells #[.bool true,.slice A ps.length c] 127)).alloc (.cells #[.bool false,.slice B qs.length d] 127)).alloc (.cells #[.bool false,.slice none 0 0] 127):=⟨_,rfl⟩
 have hP:P3 w W0 true false (.slice A ps.length c) (.slice B qs.length d):=by rw[hW0];exact P3.mk w true false _ _
 have F1:Hid (∀W,Below w.heap.size w W→Calls Tryz.prog 187 #[.slice A ps.length c,.slice B qs.length d] W (zV (X*Y) W)):=hid (fun W hb=>(J9 _ _ X Y W (h1.below hb) (h2.below hb) bX bY).mono fun e w' h=>by
  obtain⟨v,rfl,⟨ws,q1,q2,q3,q4⟩,hB⟩:=h
  exact⟨v,ws,rfl,q1,q2,q4,hB⟩)
 have KS:=hid (S3.start hP);have hR0:=hid hP.2.2.2.2;clear h1 h2 s1 s2 hP o1 o2 l1 l2 e1 e2 bX bY;generalize ps.length=n at *;generalize qs.length=m at *;obtain⟨a0,a1,b0,b1,hsz,hbl⟩:=KS.out.all;go_enter Tryz.func119,Tryz.ntmps119
 go_upto_region 1 with fail
 rw[←hW0];clear hW0
 go_wp2_with fail
 go_region_held3 (fun x=>x.cell? ⟨w.heap.size,0,none⟩=some (.bool true)∧x.cell? ⟨w.heap.size,1,none⟩=some (.slice A n c)∧x.cell? ⟨w.heap.size+1,0,none⟩=some (.bool false)∧x.cell? ⟨w.heap.size+1,1,none⟩=some (.slice B m d)∧w.heap.size+2<x.heap.size∧Below w.heap.size w x)
  (first | exact KS.out.drew.all | exact(KS.out.call (by assumption)).drew.all | (go_split_ands;exact S3.all (S3.call (by assumption) ⟨by assumption,by assumption,by assumption,by assumption,by assumption,by assumption⟩)) | (go_split_ands;exact S3.all (S3.put _ _ ⟨by assumption,by assumption,by assumption,by assumption,by assumption,by assumption⟩)))
  (first
   | (go_at_call 187;go_split_ands;refine(F1.out _ (by assumption)).mono ?_;rintro e3 w3 ⟨lv,L,rfl,hLv,hLo,hLs,hB3⟩;have hR3:=qy hB3 hR0)
   | (go_at_call 183;go_split_ands;refine(xB true lv L _ hLo hLs).mono ?_;rintro e4 w4 ⟨rv,rfl,hri,hB4⟩;have hR4:=qy hB4 hR3;obtain⟨r0,r1,k0,k1⟩:=hR4.out.two;obtain⟨RA,rn,rc,rfl,hr1,hr2⟩:=hri.open_))
 rw[hLv] at hri;have HRF:=hid (hri.put2 (a':= .bool (decide (sg true (X*Y)<0))) (b':= .slice RA rn rc) hR4.out (js _) (jq _ _ _) (js _));have HBF:Hid (Below w.heap.size w ((w4.setCell ⟨w.heap.size+1+1,0,none⟩ (.bool (decide (sg true (X*Y)<0)))).setCell ⟨w.heap.size+1+1,1,none⟩ (.slice RA rn rc))):=hid (by go_split_ands;assumption)
 go_wp2
 obtain⟨z0,z1,_,_⟩:=(hR4.out.set2 (a':= .bool (decide (sg true (X*Y)<0))) (b':= .slice RA rn rc)).two;exact bodyPost_ret (v:= .agg #[.bool (decide (sg true (X*Y)<0)),.slice RA rn rc]) (by simp[results,Tryz.results119,go_sem,z0,z1]) rfl ⟨_,rfl,HRF.out,HBF.out⟩
theorem F9 (dv ev:Value) (X Y:Nat) (w:World) (h1:Dg w dv X) (h2:Dg w ev Y) (bX:jP X) (bY:jP Y):
  Calls Tryz.prog 119 #[.agg #[.bool false,dv],.agg #[.bool true,ev]] w (kQ (sg true (X*Y)) w):=by
 obtain⟨ps,A,c,rfl,e1,o1,l1,s1⟩:=h1.slice bX;obtain⟨qs,B,d,rfl,e2,o2,l2,s2⟩:=h2.slice bY
 obtain⟨W0,hW0⟩:∃W0,W0=((w.alloc (.cells #[.bool false,.slice A ps.length c] 127)).alloc (.cells #[.bool true,.slice B qs.length d] 127)).alloc (.cells #[.bool false,.slice none 0 0] 127):=⟨_,rfl⟩
 have hP:P3 w W0 false true (.slice A ps.length c) (.slice B qs.length d):=by rw[hW0];exact P3.mk w false true _ _
 have F1:Hid (∀W,Below w.heap.size w W→Calls Tryz.prog 187 #[.slice A ps.length c,.slice B qs.length d] W (zV (X*Y) W)):=hid (fun W hb=>(J9 _ _ X Y W (h1.below hb) (h2.below hb) bX bY).mono fun e w' h=>by
  obtain⟨v,rfl,⟨ws,q1,q2,q3,q4⟩,hB⟩:=h
  exact⟨v,ws,rfl,q1,q2,q4,hB⟩)
 have KS:=hid (S3.start hP);have hR0:=hid hP.2.2.2.2;clear h1 h2 s1 s2 hP o1 o2 l1 l2 e1 e2 bX bY;generalize ps.length=n at *;generalize qs.length=m at *;obtain⟨a0,a1,b0,b1,hsz,hbl⟩:=KS.out.all;go_enter Tryz.func119,Tryz.ntmps119
 go_upto_region 1 with fail
 rw[←hW0];clear hW0
 go_wp2_with fail
 go_region_held3 (fun x=>x.cell? ⟨w.heap.size,0,none⟩=some (.bool false)∧x.cell? ⟨w.heap.size,1,none⟩=some (.slice A n c)∧x.cell? ⟨w.heap.size+1,0,none⟩=some (.bool true)∧x.cell? ⟨w.heap.size+1,1,none⟩=some (.slice B m d)∧w.heap.size+2<x.heap.size∧Below w.heap.size w x)
  (first | exact KS.out.drew.all | exact(KS.out.call (by assumption)).drew.all | (go_split_ands;exact S3.all (S3.call (by assumption) ⟨by assumption,by assumption,by assumption,by assumption,by assumption,by assumption⟩)) | (go_split_ands;exact S3.all (S3.put _ _ ⟨by assumption,by assumption,by assumption,by assumption,by assumption,by assumption⟩)))
  (first
   | (go_at_call 187;go_split_ands;refine(F1.out _ (by assumption)).mono ?_;rintro e3 w3 ⟨lv,L,rfl,hLv,hLo,hLs,hB3⟩;have hR3:=qy hB3 hR0)
   | (go_at_call 183;go_split_ands;refine(xB true lv L _ hLo hLs).mono ?_;rintro e4 w4 ⟨rv,rfl,hri,hB4⟩;have hR4:=qy hB4 hR3;obtain⟨r0,r1,k0,k1⟩:=hR4.out.two;obtain⟨RA,rn,rc,rfl,hr1,hr2⟩:=hri.open_))
 rw[hLv] at hri;have HRF:=hid (hri.put2 (a':= .bool (decide (sg true (X*Y)<0))) (b':= .slice RA rn rc) hR4.out (js _) (jq _ _ _) (js _));have HBF:Hid (Below w.heap.size w ((w4.setCell ⟨w.heap.size+1+1,0,none⟩ (.bool (decide (sg true (X*Y)<0)))).setCell ⟨w.heap.size+1+1,1,none⟩ (.slice RA rn rc))):=hid (by go_split_ands;assumption)
 go_wp2
 obtain⟨z0,z1,_,_⟩:=(hR4.out.set2 (a':= .bool (decide (sg true (X*Y)<0))) (b':= .slice RA rn rc)).two;exact bodyPost_ret (v:= .agg #[.bool (decide (sg true (X*Y)<0)),.slice RA rn rc]) (by simp[results,Tryz.results119,go_sem,z0,z1]) rfl ⟨_,rfl,HRF.out,HBF.out⟩
theorem F8 (dv ev:Value) (X Y:Nat) (w:World) (h1:Dg w dv X) (h2:Dg w ev Y) (bX:jP X) (bY:jP Y):
  Calls Tryz.prog 119 #[.agg #[.bool false,dv],.agg #[.bool false,ev]] w (kQ (sg false (X*Y)) w):=by
 obtain⟨ps,A,c,rfl,e1,o1,l1,s1⟩:=h1.slice bX;obtain⟨qs,B,d,rfl,e2,o2,l2,s2⟩:=h2.slice bY
 obtain⟨W0,hW0⟩:∃W0,W0=((w.alloc (.cells #[.bool false,.slice A ps.length c] 127)).alloc (.cells #[.bool false,.slice B qs.length d] 127)).alloc (.cells #[.bool false,.slice none 0 0] 127):=⟨_,rfl⟩
 have hP:P3 w W0 false false (.slice A ps.length c) (.slice B qs.length d):=by rw[hW0];exact P3.mk w false false _ _
 have F1:Hid (∀W,Below w.heap.size w W→Calls Tryz.prog 187 #[.slice A ps.length c,.slice B qs.length d] W (zV (X*Y) W)):=hid (fun W hb=>(J9 _ _ X Y W (h1.below hb) (h2.below hb) bX bY).mono fun e w' h=>by
  obtain⟨v,rfl,⟨ws,q1,q2,q3,q4⟩,hB⟩:=h
  exact⟨v,ws,rfl,q1,q2,q4,hB⟩)
 have KS:=hid (S3.start hP);have hR0:=hid hP.2.2.2.2;clear h1 h2 s1 s2 hP o1 o2 l1 l2 e1 e2 bX bY;generalize ps.length=n at *;generalize qs.length=m at *;obtain⟨a0,a1,b0,b1,hsz,hbl⟩:=KS.out.all;go_enter Tryz.func119,Tryz.ntmps119
 go_upto_region 1 with fail
 rw[←hW0];clear hW0
 go_wp2_with fail
 go_region_held3 (fun x=>x.cell? ⟨w.heap.size,0,none⟩=some (.bool false)∧x.cell? ⟨w.heap.size,1,none⟩=some (.slice A n c)∧x.cell? ⟨w.heap.size+1,0,none⟩=some (.bool false)∧x.cell? ⟨w.heap.size+1,1,none⟩=some (.slice B m d)∧w.heap.size+2<x.heap.size∧Below w.heap.size w x)
  (first | exact KS.out.drew.all | exact(KS.out.call (by assumption)).drew.all | (go_split_ands;exact S3.all (S3.call (by assumption) ⟨by assumption,by assumption,by assumption,by assumption,by assumption,by assumption⟩)) | (go_split_ands;exact S3.all (S3.put _ _ ⟨by assumption,by assumption,by assumption,by assumption,by assumption,by assumption⟩)))
  (first
   | (go_at_call 187;go_split_ands;refine(F1.out _ (by assumption)).mono ?_;rintro e3 w3 ⟨lv,L,rfl,hLv,hLo,hLs,hB3⟩;have hR3:=qy hB3 hR0)
   | (go_at_call 183;go_split_ands;refine(xB false lv L _ hLo hLs).mono ?_;rintro e4 w4 ⟨rv,rfl,hri,hB4⟩;have hR4:=qy hB4 hR3;obtain⟨r0,r1,k0,k1⟩:=hR4.out.two;obtain⟨RA,rn,rc,rfl,hr1,hr2⟩:=hri.open_))
 rw[hLv] at hri;have HRF:=hid (hri.put2 (a':= .bool (decide (sg false (X*Y)<0))) (b':= .slice RA rn rc) hR4.out (js _) (jq _ _ _) (js _));have HBF:Hid (Below w.heap.size w ((w4.setCell ⟨w.heap.size+1+1,0,none⟩ (.bool (decide (sg false (X*Y)<0)))).setCell ⟨w.heap.size+1+1,1,none⟩ (.slice RA rn rc))):=hid (by go_split_ands;assumption)
 go_wp2
 obtain⟨z0,z1,_,_⟩:=(hR4.out.set2 (a':= .bool (decide (sg false (X*Y)<0))) (b':= .slice RA rn rc)).two;exact bodyPost_ret (v:= .agg #[.bool (decide (sg false (X*Y)<0)),.slice RA rn rc]) (by simp[results,Tryz.results119,go_sem,z0,z1]) rfl ⟨_,rfl,HRF.out,HBF.out⟩
def UH (r:Int) (w:World) (e:Ending) (w':World):Prop:=e = .returned (.int .i64 r)∧Below w.heap.size w w'
theorem Bs (na nb:Bool) (dv ev:Value) (X Y:Nat) (w:World) (h1:Dg w dv X) (h2:Dg w ev Y) (bX:jP X) (bY:jP Y) (hab:(na==nb)=true):
  Calls Tryz.prog 118 #[.agg #[.bool na,dv],.agg #[.bool nb,ev]] w (kQ (sg na (X+Y)) w):=by
 obtain⟨ps,A,c,rfl,e1,o1,l1,s1⟩:=h1.slice bX;obtain⟨qs,B,d,rfl,e2,o2,l2,s2⟩:=h2.slice bY
 obtain⟨W0,hW0⟩:∃W0,W0=((w.alloc (.cells #[.bool na,.slice A ps.length c] 127)).alloc (.cells #[.bool nb,.slice B qs.length d] 127)).alloc (.cells #[.bool false,.slice none 0 0] 127):=⟨_,rfl⟩
 have hP:P3 w W0 na nb (.slice A ps.length c) (.slice B qs.length d):=by rw[hW0];exact P3.mk w na nb _ _
 have F1:Hid (∀W,Below w.heap.size w W→Calls Tryz.prog 184 #[.slice A ps.length c,.slice B qs.length d] W (zV (X+Y) W)):=hid (fun W hb=>by
  have h:=EF _ _ ps qs W (s1.below hb) (s2.below hb) o1 o2 l1 l2
  rw[e1,e2] at h;exact h)
 have KS:=hid (S3.start hP);have hR0:=hid hP.2.2.2.2;clear h1 h2 s1 s2 hP o1 o2 l1 l2 e1 e2 bX bY;generalize ps.length=n at *;generalize qs.length=m at *;obtain⟨a0,a1,b0,b1,hsz,hbl⟩:=KS.out.all;go_enter Tryz.func118,Tryz.ntmps118
 go_upto_region 1 with fail
 rw[←hW0];clear hW0
 go_wp2_with fail
 go_region_held3 (fun x=>x.cell? ⟨w.heap.size,0,none⟩=some (.bool na)∧x.cell? ⟨w.heap.size,1,none⟩=some (.slice A n c)∧x.cell? ⟨w.heap.size+1,0,none⟩=some (.bool nb)∧x.cell? ⟨w.heap.size+1,1,none⟩=some (.slice B m d)∧w.heap.size+2<x.heap.size∧Below w.heap.size w x)
  (first | exact KS.out.drew.all | exact(KS.out.call (by assumption)).drew.all | (go_split_ands;exact S3.all (S3.call (by assumption) ⟨by assumption,by assumption,by assumption,by assumption,by assumption,by assumption⟩)) | (go_split_ands;exact S3.all (S3.put _ _ ⟨by assumption,by assumption,by assumption,by assumption,by assumption,by assumption⟩)))
  (first
   | (go_at_call 184;go_split_ands;refine(F1.out _ (by assumption)).mono ?_;rintro e3 w3 ⟨lv,L,rfl,hLv,hLo,hLs,hB3⟩;have hR3:=qy hB3 hR0)
   | (go_at_call 183;go_split_ands;refine(xB na lv L _ hLo hLs).mono ?_;rintro e4 w4 ⟨rv,rfl,hri,hB4⟩;have hR4:=qy hB4 hR3;obtain⟨r0,r1,k0,k1⟩:=hR4.out.two;obtain⟨RA,rn,rc,rfl,hr1,hr2⟩:=hri.open_))
 rw[hLv] at hri;have HRF:=hid (hri.put2 (a':= .bool (decide (sg na (X+Y)<0))) (b':= .slice RA rn rc) hR4.out (js _) (jq _ _ _) (js _));have HBF:Hid (Below w.heap.size w ((w4.setCell ⟨w.heap.size+1+1,0,none⟩ (.bool (decide (sg na (X+Y)<0)))).setCell ⟨w.heap.size+1+1,1,none⟩ (.slice RA rn rc))):=hid (by go_split_ands;assumption)
 go_wp2
 obtain⟨z0,z1,_,_⟩:=(hR4.out.set2 (a':= .bool (decide (sg na (X+Y)<0))) (b':= .slice RA rn rc)).two;exact bodyPost_ret (v:= .agg #[.bool (decide (sg na (X+Y)<0)),.slice RA rn rc]) (by simp[results,Tryz.results118,go_sem,z0,z1]) rfl ⟨_,rfl,HRF.out,HBF.out⟩
theorem Bm (na nb:Bool) (dv ev:Value) (X Y:Nat) (w:World) (h1:Dg w dv X) (h2:Dg w ev Y) (bX:jP X) (bY:jP Y) (hab:(na==nb)=false) (hle:Y≤X):
  Calls Tryz.prog 118 #[.agg #[.bool na,dv],.agg #[.bool nb,ev]] w (kQ (sg na (X-Y)) w):=by
 obtain⟨ps,A,c,rfl,e1,o1,l1,s1⟩:=h1.slice bX;obtain⟨qs,B,d,rfl,e2,o2,l2,s2⟩:=h2.slice bY
 obtain⟨W0,hW0⟩:∃W0,W0=((w.alloc (.cells #[.bool na,.slice A ps.length c] 127)).alloc (.cells #[.bool nb,.slice B qs.length d] 127)).alloc (.cells #[.bool false,.slice none 0 0] 127):=⟨_,rfl⟩
 have hP:P3 w W0 na nb (.slice A ps.length c) (.slice B qs.length d):=by rw[hW0];exact P3.mk w na nb _ _
 have F1:Hid (∀W,Below w.heap.size w W→Calls Tryz.prog 186 #[.slice A ps.length c,.slice B qs.length d] W (zV (X-Y) W)):=hid (fun W hb=>by
  exact(GZ _ _ _ _ W (h1.below hb) (h2.below hb) hle bX).mono fun e w' h=>by
   obtain⟨v,rfl,⟨ws,q1,q2,q3,q4⟩,hB⟩:=h
   exact⟨v,ws,rfl,q1,q2,q4,hB⟩)
 have C1:Hid (∀W,Below w.heap.size w W→Calls Tryz.prog 185 #[.slice A ps.length c,.slice B qs.length d] W (UH (kp X Y) W)):=hid (fun W hb=>KD _ _ X Y W (h1.below hb) (h2.below hb));have KS:=hid (S3.start hP);have hR0:=hid hP.2.2.2.2;clear h1 h2 s1 s2 hP o1 o2 l1 l2 e1 e2 bX bY;have hor:(0:Int)≤kp X Y:=Jz hle;generalize ps.length=n at *;generalize qs.length=m at *;obtain⟨a0,a1,b0,b1,hsz,hbl⟩:=KS.out.all;go_enter Tryz.func118,Tryz.ntmps118
 go_upto_region 1 with fail
 rw[←hW0];clear hW0
 go_wp2_with fail
 refine(C1.out _ hbl).mono ?_;rintro e w1 ⟨rfl,hB1⟩;replace KS:=hid (KS.out.call hB1);have hR1:=qy hB1 hR0;clear a0 a1 b0 b1 hsz hbl hB1 C1 hR0;obtain⟨a0,a1,b0,b1,hsz,hbl⟩:=KS.out.all
 go_wp2_with fail
 go_region_held3 (fun x=>x.cell? ⟨w.heap.size,0,none⟩=some (.bool na)∧x.cell? ⟨w.heap.size,1,none⟩=some (.slice A n c)∧x.cell? ⟨w.heap.size+1,0,none⟩=some (.bool nb)∧x.cell? ⟨w.heap.size+1,1,none⟩=some (.slice B m d)∧w.heap.size+2<x.heap.size∧Below w.heap.size w x)
  (first | exact KS.out.drew.all | exact(KS.out.call (by assumption)).drew.all | (go_split_ands;exact S3.all (S3.call (by assumption) ⟨by assumption,by assumption,by assumption,by assumption,by assumption,by assumption⟩)) | (go_split_ands;exact S3.all (S3.put _ _ ⟨by assumption,by assumption,by assumption,by assumption,by assumption,by assumption⟩)))
  (first
   | (go_at_call 186;go_split_ands;refine(F1.out _ (by assumption)).mono ?_;rintro e3 w3 ⟨lv,L,rfl,hLv,hLo,hLs,hB3⟩;have hR3:=qy hB3 hR1)
   | (go_at_call 183;go_split_ands;refine(xB na lv L _ hLo hLs).mono ?_;rintro e4 w4 ⟨rv,rfl,hri,hB4⟩;have hR4:=qy hB4 hR3;obtain⟨r0,r1,k0,k1⟩:=hR4.out.two;obtain⟨RA,rn,rc,rfl,hr1,hr2⟩:=hri.open_))
 rw[hLv] at hri;have HRF:=hid (hri.put2 (a':= .bool (decide (sg na (X-Y)<0))) (b':= .slice RA rn rc) hR4.out (js _) (jq _ _ _) (js _));have HBF:Hid (Below w.heap.size w ((w4.setCell ⟨w.heap.size+1+1,0,none⟩ (.bool (decide (sg na (X-Y)<0)))).setCell ⟨w.heap.size+1+1,1,none⟩ (.slice RA rn rc))):=hid (by go_split_ands;assumption)
 go_wp2
 obtain⟨z0,z1,_,_⟩:=(hR4.out.set2 (a':= .bool (decide (sg na (X-Y)<0))) (b':= .slice RA rn rc)).two;exact bodyPost_ret (v:= .agg #[.bool (decide (sg na (X-Y)<0)),.slice RA rn rc]) (by simp[results,Tryz.results118,go_sem,z0,z1]) rfl ⟨_,rfl,HRF.out,HBF.out⟩
theorem Bo (na nb:Bool) (dv ev:Value) (X Y:Nat) (w:World) (h1:Dg w dv X) (h2:Dg w ev Y) (bX:jP X) (bY:jP Y) (hab:(na==nb)=false) (hlt:X<Y):
  Calls Tryz.prog 118 #[.agg #[.bool na,dv],.agg #[.bool nb,ev]] w (kQ (sg nb (Y-X)) w):=by
 obtain⟨ps,A,c,rfl,e1,o1,l1,s1⟩:=h1.slice bX;obtain⟨qs,B,d,rfl,e2,o2,l2,s2⟩:=h2.slice bY
 obtain⟨W0,hW0⟩:∃W0,W0=((w.alloc (.cells #[.bool na,.slice A ps.length c] 127)).alloc (.cells #[.bool nb,.slice B qs.length d] 127)).alloc (.cells #[.bool false,.slice none 0 0] 127):=⟨_,rfl⟩
 have hP:P3 w W0 na nb (.slice A ps.length c) (.slice B qs.length d):=by rw[hW0];exact P3.mk w na nb _ _
 have F1:Hid (∀W,Below w.heap.size w W→Calls Tryz.prog 186 #[.slice B qs.length d,.slice A ps.length c] W (zV (Y-X) W)):=hid (fun W hb=>by
  exact(GZ _ _ _ _ W (h2.below hb) (h1.below hb) (Nat.le_of_lt hlt) bY).mono fun e w' h=>by
   obtain⟨v,rfl,⟨ws,q1,q2,q3,q4⟩,hB⟩:=h
   exact⟨v,ws,rfl,q1,q2,q4,hB⟩)
 have C1:Hid (∀W,Below w.heap.size w W→Calls Tryz.prog 185 #[.slice A ps.length c,.slice B qs.length d] W (UH (kp X Y) W)):=hid (fun W hb=>KD _ _ X Y W (h1.below hb) (h2.below hb));have KS:=hid (S3.start hP);have hR0:=hid hP.2.2.2.2;clear h1 h2 s1 s2 hP o1 o2 l1 l2 e1 e2 bX bY
 have hor:¬(0:Int)≤kp X Y:=by rw[z8 hlt];decide
 generalize ps.length=n at *;generalize qs.length=m at *;obtain⟨a0,a1,b0,b1,hsz,hbl⟩:=KS.out.all;go_enter Tryz.func118,Tryz.ntmps118
 go_upto_region 1 with fail
 rw[←hW0];clear hW0
 go_wp2_with fail
 refine(C1.out _ hbl).mono ?_;rintro e w1 ⟨rfl,hB1⟩;replace KS:=hid (KS.out.call hB1);have hR1:=qy hB1 hR0;clear a0 a1 b0 b1 hsz hbl hB1 C1 hR0;obtain⟨a0,a1,b0,b1,hsz,hbl⟩:=KS.out.all
 go_wp2_with fail
 go_region_held3 (fun x=>x.cell? ⟨w.heap.size,0,none⟩=some (.bool na)∧x.cell? ⟨w.heap.size,1,none⟩=some (.slice A n c)∧x.cell? ⟨w.heap.size+1,0,none⟩=some (.bool nb)∧x.cell? ⟨w.heap.size+1,1,none⟩=some (.slice B m d)∧w.heap.size+2<x.heap.size∧Below w.heap.size w x)
  (first | exact KS.out.drew.all | exact(KS.out.call (by assumption)).drew.all | (go_split_ands;exact S3.all (S3.call (by assumption) ⟨by assumption,by assumption,by assumption,by assumption,by assumption,by assumption⟩)) | (go_split_ands;exact S3.all (S3.put _ _ ⟨by assumption,by assumption,by assumption,by assumption,by assumption,by assumption⟩)))
  (first
   | (go_at_call 186;go_split_ands;refine(F1.out _ (by assumption)).mono ?_;rintro e3 w3 ⟨lv,L,rfl,hLv,hLo,hLs,hB3⟩;have hR3:=qy hB3 hR1)
   | (go_at_call 183;go_split_ands;refine(xB nb lv L _ hLo hLs).mono ?_;rintro e4 w4 ⟨rv,rfl,hri,hB4⟩;have hR4:=qy hB4 hR3;obtain⟨r0,r1,k0,k1⟩:=hR4.out.two;obtain⟨RA,rn,rc,rfl,hr1,hr2⟩:=hri.open_))
 rw[hLv] at hri;have HRF:=hid (hri.put2 (a':= .bool (decide (sg nb (Y-X)<0))) (b':= .slice RA rn rc) hR4.out (js _) (jq _ _ _) (js _));have HBF:Hid (Below w.heap.size w ((w4.setCell ⟨w.heap.size+1+1,0,none⟩ (.bool (decide (sg nb (Y-X)<0)))).setCell ⟨w.heap.size+1+1,1,none⟩ (.slice RA rn rc))):=hid (by go_split_ands;assumption)
 go_wp2
 obtain⟨z0,z1,_,_⟩:=(hR4.out.set2 (a':= .bool (decide (sg nb (Y-X)<0))) (b':= .slice RA rn rc)).two;exact bodyPost_ret (v:= .agg #[.bool (decide (sg nb (Y-X)<0)),.slice RA rn rc]) (by simp[results,Tryz.results118,go_sem,z0,z1]) rfl ⟨_,rfl,HRF.out,HBF.out⟩
theorem Fs (na nb:Bool) (X Y:Nat):sg na X+sg nb Y=if (na==nb)=true then sg na (X+Y) else if Y≤X then sg na (X-Y) else sg nb (Y-X):=by
 unfold sg;cases na <;> cases nb <;> simp <;> (try split) <;> omega
theorem Fr (na nb:Bool) (X Y:Nat):sg na X*sg nb Y=sg (na != nb) (X*Y):=by
 unfold sg;cases na <;> cases nb <;> simp[Int.neg_mul,Int.mul_neg]
theorem CH (v u:Value) (x y:Int) (w:World) (hx:Ri w v x) (hy:Ri w u y) (bx:jP x.natAbs) (by_:jP y.natAbs):Calls Tryz.prog 118 #[v,u] w (kQ (x+y) w):=by
 obtain⟨na,X,dv,rfl,e1,n1,d1⟩:=Xw hx;obtain⟨nb,Y,ev,rfl,e2,n2,d2⟩:=Xw hy;rw[←n1] at bx;rw[←n2] at by_;rw[e1,e2,Fs];by_cases hab:(na==nb)=true
 ·rw[if_pos hab];exact Bs na nb dv ev X Y w d1 d2 bx by_ hab
 ·rw[if_neg hab]
  by_cases hle:Y≤X
  ·rw[if_pos hle];exact Bm na nb dv ev X Y w d1 d2 bx by_ (by simpa using hab) hle
  ·rw[if_neg hle];exact Bo na nb dv ev X Y w d1 d2 bx by_ (by simpa using hab) (by omega)
theorem Qh (v u:Value) (x y:Int) (w:World) (hx:Ri w v x) (hy:Ri w u y) (bx:jP x.natAbs) (by_:jP y.natAbs):Calls Tryz.prog 119 #[v,u] w (kQ (x*y) w):=by
 obtain⟨na,X,dv,rfl,e1,n1,d1⟩:=Xw hx;obtain⟨nb,Y,ev,rfl,e2,n2,d2⟩:=Xw hy;rw[←n1] at bx;rw[←n2] at by_;rw[e1,e2,Fr];cases na <;> cases nb
 ·exact F8 dv ev X Y w d1 d2 bx by_
 ·exact F9 dv ev X Y w d1 d2 bx by_
 ·exact Lb dv ev X Y w d1 d2 bx by_
 ·exact Lc dv ev X Y w d1 d2 bx by_
