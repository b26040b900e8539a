/- Contract: the self-check. -/
import Derived.Test.YteagkgagdelklaaGreatDoorZT44
set_option maxRecDepth 100000
set_option maxHeartbeats 8000000
namespace Go.Proofs.YteagkgagdelklaaGreatDoor
open Go.RowKit Go.Lib
theorem Tl (w:World) (hG:jK w):Calls Tryz.prog 4 #[] w fun e w'=>e = .returned (.bool true)∧Below w.heap.size w w':=by
 have HG:=hid hG;clear hG;go_enter Tryz.func4,Tryz.ntmps4
 go_wp2_with fail
 refine(Ta _ HG.out).mono ?_;rintro e w1 ⟨rfl,hB⟩;have HB1:=hid hB;clear hB
 go_wp2_with fail
 refine(S4 _).mono ?_;rintro e w2 ⟨rfl,hB⟩;have HB2:=hid (bT HB1.out hB);clear hB HB1
 go_wp2_with fail
 refine(S7 _).mono ?_;rintro e w3 ⟨rfl,hB⟩;have HB3:=hid (bT HB2.out hB);clear hB HB2
 go_wp2_with fail
 have HP:=hid (X0 w3 3 pA 5 rfl (by decide));refine(S1 _ _ HP.out).mono ?_;rintro e w4 ⟨⟨vc,rfl,hvc⟩,hB⟩;have HC:=hid hvc;have HP4:=hid (HP.out.below hB);have HB4:=hid (bT (bA HB3.out _) hB);clear hB HB3 HP hvc
 go_wp2_with fail
 refine(Te _ _ HP4.out).mono ?_;rintro e w5 ⟨rfl,hB⟩;have HP5:=hid (HP4.out.below hB);have HB5:=hid (bT HB4.out hB);have S5:=hid hB;clear hB HB4 HP4
 go_wp2_with fail
 refine(Tb _ _ HP5.out).mono ?_;rintro e w6 ⟨⟨vq,rfl,hvq⟩,hB⟩;have HQ:=hid hvq;have HB6:=hid (bT HB5.out hB);have S6:=hid (bT S5.out hB);clear hB HB5 HP5 S5 hvq
 go_wp2_with fail
 refine(Tc _ _ (X0 w6 3 [2,0,1] 3 rfl (by decide)) (HG.out.below (bA HB6.out _))).mono ?_;rintro e w7 ⟨rfl,hB⟩;have HB7:=hid (bT (bA HB6.out _) hB);have R7:=hid (bT (bA (Below.refl _ w6) _) hB);clear hB HB6
 go_wp2_with fail
 refine(Tg _ (HG.out.below HB7.out)).mono ?_;rintro e w8 ⟨⟨vu,rfl,hvu⟩,hB⟩;have HU:=hid hvu;have HB8:=hid (bT HB7.out hB);have R8:=hid (bT R7.out hB);clear hB HB7 R7 hvu
 go_wp2_with fail
 refine(S9 _ _ (X5 w8 _ _ [[49],[50],[51]] [[50],[52],[55]] 3 rfl rfl (by decide)) (HG.out.below (bA (bA (bA HB8.out _) _) _))).mono ?_;rintro e w9 ⟨⟨vk,rfl,hvk⟩,hB⟩;have HK:=hid hvk;have HB9:=hid (bT (bA (bA (bA HB8.out _) _) _) hB);have R9:=hid (bT (bA (bA (bA (Below.refl _ w8) _) _) _) hB);clear hB HB8 hvk
 go_wp2_with fail
 refine(Tf _ _ _ ((X5 w9 _ _ [[49],[50],[51]] [[50],[52],[55]] 3 rfl rfl (by decide)).more _) (ZF _ _ (Ef _ _ _ _) _ [[52],[57]] 2 rfl (by decide)) (HG.out.below (bA (bA (bA (bA HB9.out _) _) _) _))).mono ?_;rintro e w10 ⟨⟨vx,rfl,hvx⟩,hB⟩;have HX:=hid hvx;have HB10:=hid (bT (bA (bA (bA (bA HB9.out _) _) _) _) hB);have R10:=hid (bT (bA (bA (bA (bA (Below.refl _ w9) _) _) _) _) hB);clear hB HB9 hvx
 go_wp2_with fail
 refine(S2 _ _ (X5 w10 _ _ [[49],[50]] [[51],[52]] 2 rfl rfl (by decide)) (HG.out.below (bA (bA (bA HB10.out _) _) _))).mono ?_;rintro e w11 ⟨rfl,hB⟩;have HB11:=hid (bT (bA (bA (bA HB10.out _) _) _) hB);have R11:=hid (bT (bA (bA (bA (Below.refl _ w10) _) _) _) hB);clear hB HB10
 go_wp2_with fail
 refine(S8 _ _ (WM w11 _ _ [1,2] [3,4] 2 2 rfl rfl (by decide) (by decide))).mono ?_;rintro e w12 ⟨⟨vm,rfl,hvm⟩,hB⟩;have HM:=hid hvm;have HB12:=hid (bT (bA (bA (bA HB11.out _) _) _) hB);have R12:=hid (bT (bA (bA (bA (Below.refl _ w11) _) _) _) hB);clear hB HB11 hvm
 go_wp2_with fail
 have K12:=hid (bT (bT (bT R9.out R10.out) R11.out) R12.out);refine(Vm [[0,1,2],[3,4]] _ _ _ ((((HC.out.below (bT (bT S6.out R8.out) K12.out)).more _).more _).more _) (WM w12 _ _ [0,1,2] [3,4] 3 2 rfl rfl (by decide) (by decide)).wide).mono ?_;rintro e w13 ⟨rfl,hB⟩;have HB13:=hid (bT (bA (bA (bA HB12.out _) _) _) hB);have R13:=hid (bT (bA (bA (bA (Below.refl _ w12) _) _) _) hB);clear hB HB12 HC
 go_wp2_with fail
 refine(Vl [2,0,1,3,4] _ _ _ ((HQ.out.below (bT (bT R8.out K12.out) R13.out)).more _) (X0 w13 _ [2,0,1,3,4] 5 rfl (by decide)).wide).mono ?_;rintro e w14 ⟨rfl,hB⟩;have HB14:=hid (bT (bA HB13.out _) hB);have R14:=hid (bT R13.out (bT (bA (Below.refl _ w13) _) hB));clear hB HB13 HQ R13
 go_wp2_with fail
 refine(Vl [3,2,1,0] _ _ _ ((HU.out.below (bT K12.out R14.out)).more _) (X0 w14 _ [3,2,1,0] 4 rfl (by decide)).wide).mono ?_;rintro e w15 ⟨rfl,hB⟩;have HB15:=hid (bT (bA HB14.out _) hB);have R15:=hid (bT R14.out (bT (bA (Below.refl _ w14) _) hB));clear hB HB14 HU R14
 go_wp2_with fail
 refine(Vm [[0,1]] _ _ _ (((HM.out.below R15.out).more _).more _) (Bx w15 _ _ [0,1] 2 rfl (by decide))).mono ?_;rintro e w16 ⟨rfl,hB⟩;have HB16:=hid (bT (bA (bA HB15.out _) _) hB);have R16:=hid (bT R15.out (bT (bA (bA (Below.refl _ w15) _) _) hB));clear hB HB15 HM R15
 go_wp2_with fail
 refine(Td _ _ _ _ (((X5 w16 _ _ [[49],[49]] [[50],[50]] 2 rfl rfl (by decide)).more _).more _) ((ZF _ _ (Ef _ _ _ _) _ [[49],[51]] 2 rfl (by decide)).more _) (ZF _ _ (OO _ _ _ _ _) _ [[45,50],[49]] 2 rfl (by decide)) (HG.out.below (bA (bA (bA (bA (bA HB16.out _) _) _) _) _))).mono ?_;rintro e w17 ⟨rfl,hB⟩;have HB17:=hid (bT (bA (bA (bA (bA (bA HB16.out _) _) _) _) _) hB);have R17:=hid (bT R16.out (bT (bA (bA (bA (bA (bA (Below.refl _ w16) _) _) _) _) _) hB));clear hB HB16 R16
 go_wp2_with fail
 refine(Tj [[[49],[45,49,47,50],[48]]] _ _ _ (((HK.out.below (bT (bT (bT R10.out R11.out) R12.out) R17.out)).more _).more _) (Bw w17 _ _ [[49],[45,49,47,50],[48]] 3 rfl (by decide))).mono ?_;rintro e w18 ⟨rfl,hB⟩;have HB18:=hid (bT (bA (bA HB17.out _) _) hB);have R18:=hid (bT R17.out (bT (bA (bA (Below.refl _ w17) _) _) hB));clear hB HB17 HK R17
 go_wp2_with fail
 refine(Tk [[49],[48],[49]] _ _ _ ((HX.out.below (bT (bT R11.out R12.out) R18.out)).more _) (WN w18 _ [[49],[48],[49]] 3 rfl (by decide))).mono ?_;rintro e w19 ⟨rfl,hB⟩;have HB19:=hid (bT (bA HB18.out _) hB);clear hB HB18 HX R18
 go_wp2_with fail
 refine(Th _).mono ?_;rintro e w20 ⟨rfl,hB⟩;have HB20:=hid (bT HB19.out hB);clear hB HB19
 go_wp2_with fail
 refine(Ti _).mono ?_;rintro e w21 ⟨rfl,hB⟩;have HB21:=hid (bT HB20.out hB);clear hB HB20
 go_wp2
 go_ret;exact⟨rfl,HB21.out⟩
