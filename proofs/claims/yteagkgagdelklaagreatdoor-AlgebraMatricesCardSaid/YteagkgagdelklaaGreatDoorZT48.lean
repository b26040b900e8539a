/- The statement on AlgebraMatrices: its row, from inside. -/
import Derived.Test.YteagkgagdelklaaGreatDoorZT46
set_option maxRecDepth 100000
namespace Go.Proofs.YteagkgagdelklaaGreatDoor
open Go.ChangeShapes Go.WideShapes Go.ChangeAt Go.RowKit Go.Lib
theorem BZ (os:Os) (started:os.Started) (H:Type) (enc:TypeId×Value→H):
  ReturnsInHanded {} Tryz.checked os 3 .any (fun w args=>(Rows.algebraMatricesSpec.pre enc Tryz.checked.prog Tryz.f3 [] false w args∧laidMetH Tryz.prog JF w)∧sizedMet enc Tryz.checked.prog Tryz.f3 (OpenSpec.ofChange Rows.algebraMatricesSpec) false w args)
   (Rows.algebraMatricesSpec.post enc Tryz.checked.prog Tryz.f3 false true false false):=by
 refine L9 started (by kernel_rfl) Tryz.func3
  (ChangeSpec.witness_shaped (enc:=enc) (C:=Tryz.checked) (os:=os) (X:=fun w _=>laidMetH Tryz.prog JF w) false (World.doorLaid Tryz.prog 400 os) #[.slice none 0 0] 8 rfl (World.shaped_of_RefB (by kernel_rfl) (by kernel_rfl)) (by kernel_rfl) (by kernel_rfl) (by kernel_rfl) (N5 os _)) ?_
 intro W base args ds gs before hval0 hW hsz hG;have hval:∀(j:Nat) t v,Tryz.f3.params[j]? =some t→args[j]? =some v→Value.okWide Tryz.prog W .any base t v:=hval0;have hW':=hW;obtain⟨p,q,hA0,hV,rfl,hfz,hnd⟩:=hW;have hA:DataW.TrodAll enc Tryz.prog W 0 (fun _=>true) true Tryz.f3.params.toList args.toList ds p:=hA0;rw[Tryz.params3] at hA hval hsz;obtain⟨v0,d0,rfl,rfl,h0⟩:=trodAll_one hA;obtain⟨rfl,rfl⟩:=trodVars_none hV;obtain⟨a0,l0,c0,rfl⟩:=okWide_slice Tryz.underlying22 (hval 0 22 v0 rfl rfl);have h0k:=h0;obtain⟨fuel0,hf0⟩:=h0;clear hA0 hval0;simp only[Qbg] at hW' hsz
 have hlt:∀x∈p,x.block<W.heap.size:=fun x hx=>by simpa using hW'.lt x (by simpa using hx)
 obtain⟨M,hM⟩:=CU hf0 (fun n hn=>by
  have:=List.all_eq_true.1 hsz n (DataW.weights_mem_each (j:=0) (t:=22) rfl rfl n hn)
  simpa using this)
 refine(Ru _ M W hM hG).mono fun e W' ⟨he,bel⟩=> ?_
 subst he;refine⟨_,rfl,_,_,_,[],p,[],hW',?_,?_,?_,bel.frame _,fun h=>by cases h⟩
 ·exact trodAll_mk1 (shut_bool Tryz.underlying4 true)
 ·exact trodAll_mk1 (Below.trod Bj (by kernel_rfl) (QaL (by kernel_rfl)) h0k bel (fun x hx=>hlt x (by simp[hx])))
 ·rfl
