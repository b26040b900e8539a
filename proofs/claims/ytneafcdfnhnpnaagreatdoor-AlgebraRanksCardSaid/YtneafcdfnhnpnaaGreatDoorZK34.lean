/- The law AlgebraRanks. -/
import Derived.Test.YtneafcdfnhnpnaaGreatDoorZK33
import Derived.Test.YtneafcdfnhnpnaaGreatDoorTie
import Derived.Test.YtneafcdfnhnpnaaGreatDoorCards
import Derived.LaidMore
set_option maxRecDepth 100000
set_option maxHeartbeats 32000000
namespace Go.Proofs.YtneafcdfnhnpnaaGreatDoor
open Go.RowKit Go.Lib
theorem Yh (v:Value) (p:List Int) (n:Int) (l:List UInt8) (w:World) (hv:Sl w 1 v (jc p)) (hG:jH w) (hl:l.length≤9223372036854775807)
  (h:(30<p.length∧p.length≤256)∨260<p.length∨(p.length≤30∧30<n∧n≤256)∨(256<p.length∧p.length≤260∧30<n∧n≤256) ∨
   (p.length≤30∧n≤30∧40<l.length)∨(p.length≤30∧256<n∧40<l.length)∨(256<p.length∧p.length≤260∧n≤30∧40<l.length)∨(256<p.length∧p.length≤260∧256<n∧40<l.length)):qK v n l w:=by
 unfold qK;obtain⟨A,c,rfl,hc1,hc2⟩:=hv.form;simp only[jQ] at *;have HG:=hid hG;generalize hss:(⟨l.toArray⟩:ByteArray)=s at *
 have hz:s.size=l.length:=by rw[←hss];simp[ByteArray.size]
 have hsI:(s.size:Int)≤9223372036854775807:=by omega
 rcases h with h | h | h | h | h | h | h | h
 all_goals (
  (try have P1:decide ((30:Int)<(p.length:Int))=true:=decide_eq_true (by omega))
  (try have P1:decide ((30:Int)<(p.length:Int))=false:=decide_eq_false (by omega))
  (try have P2:decide ((p.length:Int)≤256)=true:=decide_eq_true (by omega))
  (try have P2:decide ((p.length:Int)≤256)=false:=decide_eq_false (by omega))
  (try have P3:decide ((260:Int)<(p.length:Int))=true:=decide_eq_true (by omega))
  (try have P3:decide ((260:Int)<(p.length:Int))=false:=decide_eq_false (by omega))
  (try have P4:decide ((30:Int)<n)=true:=decide_eq_true (by omega))
  (try have P4:decide ((30:Int)<n)=false:=decide_eq_false (by omega))
  (try have P5:decide (n≤256)=true:=decide_eq_true (by omega))
  (try have P5:decide (n≤256)=false:=decide_eq_false (by omega))
  (try have P6:decide ((40:Int)<(s.size:Int))=true:=decide_eq_true (by omega))
  clear h hss hz hl hG hv;go_enter Tryz.func6,Tryz.ntmps6
  go_wp2_with fail
  refine(qg _ HG.out).mono ?_;rintro e w1 ⟨rfl,hB⟩;have HB:=hid hB;clear hB
  go_wp2_with fail
  refine(qg _ (HG.out.below HB.out)).mono ?_;rintro e w2 ⟨rfl,hB⟩;have HB2:=hid (HB.out.trans (hB.mono HB.out.size));clear hB
  go_wp2
  go_ret
  exact⟨rfl,HB2.out⟩)
theorem D3 {p:List Int} (h:256<p.length):ji p≠0:=by
 unfold ji;rw[if_pos h];decide
theorem Mv (v:Value) (p:List Int) (n:Int) (l:List UInt8) (w:World) (hv:Sl w 1 v (jc p)) (hG:jH w) (hl:l.length≤9223372036854775807):qK v n l w:=by
 by_cases hp:p.length≤30∨(256<p.length∧p.length≤260)
 ·by_cases hn:n≤30∨256<n
  ·by_cases hs:l.length≤40
   ·have H:zM p v n l w:=⟨hv,hG,hs⟩
    have HP:zQ p:=by
     rcases hp with h | ⟨h,h2⟩
     ·by_cases he:ji p=0
      ·exact .inr (.inl ⟨h,he⟩)
      ·exact .inl ⟨h,he⟩
     ·exact .inr (.inr ⟨h,h2,D3 h⟩)
    by_cases h0:n<0
    ·exact EF p v n l w H HP h0
    by_cases h6:256<n
    ·exact EA p v n l w H HP h6
    have hn2:0≤n∧n≤30:=by omega
    by_cases hk:(jn l).1=0
    ·by_cases hd:(jn l).2.den=1
     ·by_cases hq:(jn l).2.num<0
      ·exact EE p v n l w H HP hn2 hk hd hq
      ·by_cases hf:jw n.toNat≤(jn l).2.num.natAbs
       ·exact ED p v n l w H HP hn2 hk hd hq hf
       ·exact EG p v n l w H HP hn2 hk hd hq (by omega)
     ·exact EC p v n l w H HP hn2 hk hd
    ·exact EB p v n l w H HP hn2 hk
   ·exact Yh v p n l w hv hG hl (by omega)
  ·exact Yh v p n l w hv hG hl (by omega)
 ·exact Yh v p n l w hv hG hl (by omega)
end Go.Proofs.YtneafcdfnhnpnaaGreatDoor
namespace Go.Proofs.YtneafcdfnhnpnaaGreatDoor
open Go.ChangeShapes Go.WideShapes Go.ChangeAt Go.RowKit Go.Lib
theorem DM:ownKnob Tryz.prog.godebug=none:=by kernel_rfl
theorem YW:laidOutB Tryz.prog=true:=by kernel_rfl
theorem Tx:Tryz.prog.globalNamed "internal/strconv.uint64pow10" =some 5:=by kernel_rfl
theorem C9:(Tryz.prog.globals[5]?).map (·.type)=some 319:=by kernel_rfl
theorem Rm:Tryz.prog.cellsOf 148=1:=by kernel_rfl
theorem Rl:Tryz.prog.cellsOf 319=20:=by kernel_rfl
theorem Rk:Tryz.prog.cellsOf 3=1:=by kernel_rfl
theorem Rh:Tryz.prog.bytesOf 3=8:=by kernel_rfl
def z6:List (String×DataW Unit):=[("math/bits.deBruijn32tab",Rows.laid_math_bits_deBruijn32tab),("math/bits.deBruijn64tab",Rows.laid_math_bits_deBruijn64tab),("internal/strconv.uint64pow10",Rows.laid_internal_strconv_uint64pow10),("strconv.ErrRange",Rows.laid_strconv_ErrRange),("strconv.ErrSyntax",Rows.laid_strconv_ErrSyntax)]
theorem UC {W:World} {b o:Nat} {v:Value} (h:W.cell? ⟨b,o,none⟩=some v):b<W.heap.size:=by
 rcases Nat.lt_or_ge b W.heap.size with h1 | h1
 ·exact h1
 ·rw[World.cell?] at h
  have h2:W.heap[b]? =none:=Array.getElem?_eq_none h1;simp[h2] at h
theorem TH {W:World} (h:laidMetH Tryz.prog z6 W) (hsh:W.ShapedOpen Tryz.prog):jH W:=by
 have h2:=laidMetH.filter (fun x=>x.1 == "internal/strconv.uint64pow10") h
 have e:z6.filter (fun x=>x.1 == "internal/strconv.uint64pow10")=[("internal/strconv.uint64pow10",tabData .u64 pow10Tab)]:=by kernel_rfl
 rw[e,MakeChecks.laidMetH_plain _ _ _ (by kernel_rfl)] at h2;have ht:TabIs Tryz.prog W "internal/strconv.uint64pow10" .u64 pow10Tab:=tabIs_of_head Tx C9 Tryz.underlying319 Tryz.underlying148 Rm Rl h2;obtain⟨m,hm⟩:=cell_of_shapedOpen_int (g:=2) (t:=3) (zero:= #[.int .i64 0]) hsh (of_decide_eq_true (by kernel_rfl)) (by kernel_rfl) rfl (by kernel_rfl) (by kernel_rfl) Tryz.underlying3;refine⟨tabBelow_of_tabIs ht,m,?_,hm⟩;exact UC hm
theorem SM (os:Os) (args:Array Value):laidMetH Tryz.prog z6 ((World.doorLaid Tryz.prog 400 os).forCall (fun _ _=>0) ⟨#[],args,[]⟩).memory:=
 laidMetH_of_parts3 (fuel:=8) (laidMet_of_run' 8 (by kernel_rfl) (by kernel_rfl)) (by kernel_rfl) (by kernel_rfl)
theorem Dz {H:Type} {enc:TypeId×Value→H} {W:World} {a0:Option Addr} {len cap fuel:Nat} {x:DataW H×List MemPlace} (hf:DataW.trod enc Tryz.prog W 0 (fun _=>true) true fuel 50 [.slice a0 len cap]=some x)
  (hw:∀elems spare,x.1 = .slice elems spare→(elems.length+spare.length)*8≤reachBytes):∃L,Sl W 1 (.slice a0 len cap) (jc L):=by
 rcases open_ints Tryz.underlying50 Tryz.underlying3 Rk hf with ⟨hcs,hx⟩ | ⟨a,len',cap',zs,hcs,_,hl,hm,hz,hx,hcell,_⟩
 ·simp at hcs
  obtain⟨rfl,rfl,rfl⟩:=hcs;exact⟨[],Sl.nil⟩
 ·simp at hcs
  obtain⟨rfl,rfl,rfl⟩:=hcs;simp only[if_true] at hz;have hsz:=hw _ _ (by rw[hx]);simp only[lits,List.length_map,List.length_take,List.length_drop,reachBytes] at hsz;obtain⟨b,off,spot⟩:=a;refine⟨zs.take len,some ⟨b,off,spot⟩,len,cap,rfl,hl,by omega,by rw[jQ,List.length_take];omega,fun h0=> ?_⟩
  have hspot:spot=none:=by simpa [Addr.add] using World.cell?_spot (hcell 0 (by omega))
  subst hspot;have h00:=hcell 0 (by omega);rw[Lib.add_plain] at h00;refine⟨b,off,rfl,UC h00,fun j u hu=> ?_⟩
  have hj:j<len:=by
   have:=(List.getElem?_eq_some_iff.1 hu).1;rw[jQ,List.length_take] at this;omega
  have h1:=hcell j (by omega);rw[Lib.add_plain] at h1;rw[h1,←hu,kh _ j (by rw[List.length_take];omega),List.getElem?_take_of_lt hj];simp[List.getD]
theorem B5 {H:Type} {enc:TypeId×Value→H} {os:Os} {f:FuncId} {fn:Func} {s:ChangeSpec} (started:os.Started) (noInit:Tryz.checked.prog.inits.idxOf? f=none) (hfn:Tryz.checked.prog.funcs[f]? =some fn)
  (witness:∃(w:World) (tape:Tape) (i:Input),w.os=os∧(w.forCall tape i).Shaped Tryz.checked.prog∧i.vars=[]∧Input.okWide Tryz.checked.prog (w.forCall tape i) .any w.heap.size f i ∧
   ((s.pre enc Tryz.checked.prog fn [] false (w.forCall tape i).memory i.args∧laidMetH Tryz.prog z6 (w.forCall tape i).memory)∧sizedMet enc Tryz.checked.prog fn (OpenSpec.ofChange s) false (w.forCall tape i).memory i.args)∧({} :Assume).holds Tryz.checked.prog (lone (Frame.enter Tryz.checked.prog f i.args .normal) [] (w.forCall tape i)))
  (contract:∀(W:World) (base:Nat) (args:Array Value) (ds gs:List (DataW H)) (before:List MemPlace),
   (∀(j:Nat) t v,fn.params[j]? =some t→args[j]? =some v→Value.okWide Tryz.prog W .any base t v) →
   DataW.Whole enc Tryz.prog fn.params.toList s.vars false W args.toList ds gs before →
   (DataW.weightsEach Tryz.prog (fn.params.toList++s.plain.varTypes Tryz.prog) (ds++gs)).all (· ≤reachBytes)=true →
   jH W→Calls Tryz.prog f args W fun e W'=>∃v,e = .returned v∧s.post enc Tryz.prog fn false true false false W args v W'):
  ReturnsInHanded {} Tryz.checked os f .any (fun w args=>(s.pre enc Tryz.checked.prog fn [] false w args∧laidMetH Tryz.prog z6 w)∧sizedMet enc Tryz.checked.prog fn (OpenSpec.ofChange s) false w args) (s.post enc Tryz.checked.prog fn false true false false):=by
 refine returnsInHanded_of_calls (C:=Tryz.checked) DM started noInit witness ?_;intro w tape i _ hsh _ hok hpre _;obtain⟨_,_,_,fn',hfn',_,_,_,_,hval⟩:=hok;have e:fn'=fn:=Option.some.inj (hfn'.symm.trans hfn);subst e;obtain⟨⟨⟨ds,gs,before,hw,hc⟩,hx⟩,hz⟩:=hpre;have hw':=DataW.Whole.of_heap (w':=w.forCall tape i) (by rfl) hw;have hL:laidMetH Tryz.prog z6 (w.forCall tape i):=laidMetH.of_heap (by rfl) hx
 refine(contract (w.forCall tape i) w.heap.size i.args ds gs before hval hw' (hz.weights hw) (TH hL hsh)).mono fun e W' ⟨v,he,hp⟩=> ?_
 subst he;exact ChangeSpec.post_blind hp
end Go.Proofs.YtneafcdfnhnpnaaGreatDoor
namespace Go.Proofs.YtneafcdfnhnpnaaGreatDoor
open Go.ChangeShapes Go.WideShapes Go.ChangeAt Go.RowKit Go.Lib
open Go.ChangeMaps (open_string)
theorem Mu (v:Value) (p:List Int) (n:Int) (s:ByteArray) (w:World) (hv:Sl w 1 v (jc p)) (hs:s.size≤9223372036854775807) (hG:jH w):
  Calls Tryz.prog 6 #[v,.int .i64 n,.string s] w fun e w'=>e = .returned (.bool true)∧Below w.heap.size w w':=by
 have h:=Mv v p n s.data.toList w hv hG (by simpa using hs);unfold qK at h;rw[←Qo s] at h;exact h
theorem AR (os:Os) (started:os.Started) (H:Type) (enc:TypeId×Value→H):
  ReturnsInHanded {} Tryz.checked os 6 .any (fun w args=>(Rows.algebraRanksSpec.pre enc Tryz.checked.prog Tryz.f6 [] false w args∧laidMetH Tryz.prog z6 w)∧sizedMet enc Tryz.checked.prog Tryz.f6 (OpenSpec.ofChange Rows.algebraRanksSpec) false w args)
   (Rows.algebraRanksSpec.post enc Tryz.checked.prog Tryz.f6 false true false false):=by
 refine B5 started (by kernel_rfl) Tryz.func6
  (ChangeSpec.witness_shaped (enc:=enc) (C:=Tryz.checked) (os:=os) (X:=fun w _=>laidMetH Tryz.prog z6 w) false (World.doorLaid Tryz.prog 400 os) #[.slice none 0 0,.int .i64 0,.string ⟨#[]⟩] 8 rfl (World.shaped_of_RefB (by kernel_rfl) (by kernel_rfl)) (by kernel_rfl) (by kernel_rfl) (by kernel_rfl) (SM os _)) ?_
 intro W base args ds gs before hval0 hW hsz hG;have hval:∀(j:Nat) t v,Tryz.f6.params[j]? =some t→args[j]? =some v→Value.okWide Tryz.prog W .any base t v:=hval0;have hW':=hW;obtain⟨p,q,hA0,hV,rfl,hfz,hnd⟩:=hW;have hA:DataW.TrodAll enc Tryz.prog W 0 (fun _=>true) true Tryz.f6.params.toList args.toList ds p:=hA0;rw[Tryz.params6] at hA hval hsz;obtain⟨v0,v1,v2,d0,d1,d2,p0,p1,p2,rfl,rfl,rfl,h0,h1,h2⟩:=trodAll_three hA;obtain⟨rfl,rfl⟩:=trodVars_none hV;obtain⟨a0,l0,c0,rfl⟩:=okWide_slice Tryz.underlying50 (hval 0 50 v0 rfl rfl);have h0k:=h0;have h1k:=h1;have h2k:=h2;obtain⟨fuel0,hf0⟩:=h0;obtain⟨k,rfl,rfl,rfl,wk⟩:=open_int Tryz.underlying3 (hval 1 3 v1 rfl rfl) h1;obtain⟨s,rfl,rfl,rfl,ws⟩:=open_string Tryz.underlying22 (hval 2 22 v2 rfl rfl) h2;clear hA0 hval0;simp only[List.append_nil] at hW' hsz
 have hlt:∀x∈p0,x.block<W.heap.size:=fun x hx=>by simpa using hW'.lt x (by simpa using hx)
 obtain⟨L0,hL0⟩:=Dz hf0 (fun elems spare hd=>by
  have:=sized_slice hsz (j:=0) (t:=50) (e:=3) rfl (by rw[←hd];rfl) Tryz.underlying50
  rwa [Rh] at this)
 refine(Mu _ L0 k s W hL0 (by unfold maxLen at ws;exact ws) hG).mono fun e W' ⟨he,bel⟩=> ?_
 subst he;refine⟨_,rfl,_,_,_,[],p0,[],hW',?_,?_,?_,bel.frame _,fun h=>by cases h⟩
 ·exact trodAll_mk1 (shut_bool Tryz.underlying4 true)
 ·have h:=trodAll_mk3 (Below.trod YW (by kernel_rfl) (of_decide_eq_true (by kernel_rfl)) h0k bel (fun x hx=>hlt x (by simp[hx]))) (Below.trod YW (by kernel_rfl) (of_decide_eq_true (by kernel_rfl)) h1k bel (fun x hx=>by cases hx))
   (Below.trod YW (by kernel_rfl) (of_decide_eq_true (by kernel_rfl)) h2k bel (fun x hx=>by cases hx))
  simp only[List.append_nil] at h;exact h
 ·rfl
