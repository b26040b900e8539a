/- The law AlgebraMatrices. -/
import Derived.Test.YtneafcdfnhnpnaaGreatDoorZD49
import Derived.Test.YtneafcdfnhnpnaaGreatDoorZD47
set_option maxRecDepth 100000
set_option maxHeartbeats 8000000
namespace Go.Proofs.YtneafcdfnhnpnaaGreatDoor
open Go.RowKit Go.Lib
theorem YM:JP (B9^jS):=by
 have e:B9^jS=10^(9*jS):=by rw[Nat.pow_mul]
 rw[e];exact Ns (by have:=KY;have:=Xe;omega)
theorem DC (a e:Nat) (h:a*e<9*jS):(10^a)^e<B9^jS:=by
 have e2:B9^jS=10^(9*jS):=by rw[Nat.pow_mul]
 rw[e2,←Nat.pow_mul];exact Nat.pow_lt_pow_right (by decide) h
@[irreducible] def X7:Nat:=10^7
theorem X5:X7=10^7:=by unfold X7;rfl
theorem DE (X a e:Nat) (hX:X=10^a) (h:a*e<9*jS):X^e<B9^jS:=by
 subst hX;exact DC a e h
@[irreducible] def E7:Nat:=7
theorem Z0:E7=7:=by unfold E7;rfl
theorem Uf (e:Nat) (h:e≤500000):X7^e<B9^jS:=DE X7 7 e X5 (by unfold jS;omega)
theorem Em:X7^5^E7<B9^jS:=Uf _ (by rw[Z0];decide)
theorem Ug:2≤X7:=by rw[X5];decide
theorem Gr:∀ {L:List jn},ku L=0 → ∀l∈L,(jY l).1=0
 | [],_,l,h=>by cases h
 | a::t,h,l,hl=>by
  unfold ku at h;split at h
  ·rename_i h1
   rcases List.mem_cons.1 hl with rfl | hl
   ·exact h1
   ·exact Gr h l hl
  ·rename_i h1;exact absurd h h1
theorem Gx {n0:Nat} :∀ {M:List (List jn)},xk n0 M=0 → ∀r∈M,r.length=n0∧ku r=0
 | [],_,r,h=>by cases h
 | a::t,h,r,hr=>by
  unfold xk at h;split at h
  ·exact absurd h (by decide)
  ·split at h
   ·exact absurd h (by decide)
   ·split at h
    ·rename_i h1 h2 h3
     rcases List.mem_cons.1 hr with rfl | hr
     ·exact⟨Decidable.not_not.1 h2,h3⟩
     ·exact Gx h r hr
    ·rename_i h1 h2 h3;exact absurd h h3
theorem VX {M:List (List jn)} (h:jT M=0):∀r∈M,r.length=jA M∧ku r=0:=by
 unfold jT at h;split at h
 ·exact absurd h (by decide)
 ·exact Gx h
theorem Fj {L:List jn} (h:∀l∈L,(jY l).1=0):qD (ji L)=jO L:=by
 unfold qD ji jO;rw[List.map_map];exact List.map_congr_left (fun l hl=>by show xz (jY l).2=sv l;unfold xz sv;rw[(WZ l (h l hl)).1])
theorem kd.num {w:World} {v:Value} {M:List (List jn)} (h:kd w v M) (hM:jT M=0):X0 w v (M.map ji):=by
 obtain⟨vs,h1,h2,h3⟩:=h;refine⟨vs,h1,by rw[List.length_map];exact h2,fun i r hr=> ?_⟩;rw[List.getElem?_map] at hr
 cases hl:M[i]? with
 | none=>rw[hl] at hr;cases hr
 | some L=>
  rw[hl] at hr;obtain rfl:=Option.some.inj hr;obtain⟨u,hu,hs⟩:=h3 i L hl;exact⟨u,hu,by rw[Fj (Gr (VX hM L (List.mem_of_getElem? hl)).2)];exact hs⟩
theorem Mj (M:List (List jn)):jA (M.map ji)=jA M:=by
 unfold jA;rw[List.getElem?_map]
 cases M[0]? with
 | none=>rfl
 | some r=>simp[ji]
theorem Fa {M:List (List jn)} (h:jT M=0):∀r∈M.map ji,r.length=jA (M.map ji):=by
 intro r hr;obtain⟨L,hL,rfl⟩:=List.mem_map.1 hr;rw[Mj];have:=(VX h L hL).1;simp[ji,this]
theorem Fy {n:Nat} (hn:1≤n) {M:List (List jn)} (h:xT n M):∀r∈M.map ji,∀x∈r,Bq (10^n) x:=by
 intro r hr x hx;obtain⟨L,hL,rfl⟩:=List.mem_map.1 hr;obtain⟨l,hl,rfl⟩:=List.mem_map.1 hx;exact Cb ((h.2 L hL).2 l hl) hn
theorem GO {M:List (List jn)} (h:xT 7 M):∀r∈M.map ji,∀x∈r,Bq X7 x:=by
 rw[X5];exact Fy (by decide) h
theorem ZB {n:Nat} (hn:n≤19) {M:List (List jn)} (h:xT n M):∀r∈M,∀l∈r,xq l:=fun r hr l hl=>by
 have:=(h.2 r hr).2 l hl;exact⟨by omega,.inl (by omega)⟩
def Ma (x y:Value) (w:World) (e:Ending) (w':World):Prop:=e = .returned (.tuple #[x,y])∧Below w.heap.size w w'
section
variable {v:Value} {M:List (List jn)}
structure xo (v:Value) (M:List (List jn)) (w:World):Prop where
 hv:kd w v M
 hs:xT 7 M
 hG:jN w
variable {w:World}
theorem xo.lim (_:xo v M w):2≤X7∧X7^5^E7<B9^jS:=⟨Ug,Em⟩
theorem xo.ci (h:xo v M w):Calls Tryz.prog 66 #[v] w fun e w'=>e = .returned (.int .i64 (jT M))∧Below w.heap.size w w':=
 Cx v M w h.hv (fun r hr l hl=>by have:=(h.hs.2 r hr).2 l hl;omega)
end
end Go.Proofs.YtneafcdfnhnpnaaGreatDoor
namespace Go.Proofs.YtneafcdfnhnpnaaGreatDoor
open Go.ChangeShapes Go.WideShapes Go.ChangeAt Go.RowKit Go.Lib
theorem AY:ownKnob Tryz.prog.godebug=none:=by kernel_rfl
theorem Dt:laidOutB Tryz.prog=true:=by kernel_rfl
theorem Nx:Tryz.prog.globalNamed "internal/strconv.uint64pow10" =some 5:=by kernel_rfl
theorem F5:(Tryz.prog.globals[5]?).map (·.type)=some 319:=by kernel_rfl
theorem RG:Tryz.prog.cellsOf 148=1:=by kernel_rfl
theorem RB:Tryz.prog.cellsOf 319=20:=by kernel_rfl
def zX:List (String×DataW Unit):=[("math/bits.deBruijn32tab",Rows.laid_math_bits_deBruijn32tab),("math/bits.deBruijn64tab",Rows.laid_math_bits_deBruijn64tab),("internal/strconv.uint64pow10",Rows.laid_internal_strconv_uint64pow10),("strconv.ErrRange",Rows.laid_strconv_ErrRange),("strconv.ErrSyntax",Rows.laid_strconv_ErrSyntax)]
theorem Yd {W:World} {b o:Nat} {v:Value} (h:W.cell? ⟨b,o,none⟩=some v):b<W.heap.size:=by
 rcases Nat.lt_or_ge b W.heap.size with h1 | h1
 ·exact h1
 ·rw[World.cell?] at h
  have h2:W.heap[b]? =none:=Array.getElem?_eq_none h1;simp[h2] at h
theorem NK {W:World} (h:laidMetH Tryz.prog zX W) (hsh:W.ShapedOpen Tryz.prog):jN W:=by
 have h2:=laidMetH.filter (fun x=>x.1 == "internal/strconv.uint64pow10") h
 have e:zX.filter (fun x=>x.1 == "internal/strconv.uint64pow10")=[("internal/strconv.uint64pow10",tabData .u64 pow10Tab)]:=by kernel_rfl
 rw[e,MakeChecks.laidMetH_plain _ _ _ (by kernel_rfl)] at h2;have ht:TabIs Tryz.prog W "internal/strconv.uint64pow10" .u64 pow10Tab:=tabIs_of_head Nx F5 Tryz.underlying319 Tryz.underlying148 RG RB h2;obtain⟨m,hm⟩:=cell_of_shapedOpen_int (g:=2) (t:=3) (zero:= #[.int .i64 0]) hsh (of_decide_eq_true (by kernel_rfl)) (by kernel_rfl) rfl (by kernel_rfl) (by kernel_rfl) Tryz.underlying3;refine⟨tabBelow_of_tabIs ht,m,?_,hm⟩;exact Yd hm
theorem Ty (os:Os) (args:Array Value):laidMetH Tryz.prog zX ((World.doorLaid Tryz.prog 400 os).forCall (fun _ _=>0) ⟨#[],args,[]⟩).memory:=
 laidMetH_of_parts3 (fuel:=8) (laidMet_of_run' 8 (by kernel_rfl) (by kernel_rfl)) (by kernel_rfl) (by kernel_rfl)
theorem C5 {H:Type} {enc:TypeId×Value→H} {os:Os} {f:FuncId} {fn:Func} {s:ChangeSpec} (started:os.Started) (noInit:Tryz.checked.prog.inits.idxOf? f=none) (hfn:Tryz.checked.prog.funcs[f]? =some fn)
  (witness:∃(w:World) (tape:Tape) (i:Input),w.os=os∧(w.forCall tape i).Shaped Tryz.checked.prog∧i.vars=[]∧Input.okWide Tryz.checked.prog (w.forCall tape i) .any w.heap.size f i ∧
   ((s.pre enc Tryz.checked.prog fn [] false (w.forCall tape i).memory i.args∧laidMetH Tryz.prog zX (w.forCall tape i).memory)∧sizedMet enc Tryz.checked.prog fn (OpenSpec.ofChange s) false (w.forCall tape i).memory i.args)∧({} :Assume).holds Tryz.checked.prog (lone (Frame.enter Tryz.checked.prog f i.args .normal) [] (w.forCall tape i)))
  (contract:∀(W:World) (base:Nat) (args:Array Value) (ds gs:List (DataW H)) (before:List MemPlace),
   (∀(j:Nat) t v,fn.params[j]? =some t→args[j]? =some v→Value.okWide Tryz.prog W .any base t v) →
   DataW.Whole enc Tryz.prog fn.params.toList s.vars false W args.toList ds gs before →
   (DataW.weightsEach Tryz.prog (fn.params.toList++s.plain.varTypes Tryz.prog) (ds++gs)).all (· ≤reachBytes)=true →
   jN W→Calls Tryz.prog f args W fun e W'=>∃v,e = .returned v∧s.post enc Tryz.prog fn false true false false W args v W'):
  ReturnsInHanded {} Tryz.checked os f .any (fun w args=>(s.pre enc Tryz.checked.prog fn [] false w args∧laidMetH Tryz.prog zX w)∧sizedMet enc Tryz.checked.prog fn (OpenSpec.ofChange s) false w args) (s.post enc Tryz.checked.prog fn false true false false):=by
 refine returnsInHanded_of_calls (C:=Tryz.checked) AY started noInit witness ?_;intro w tape i _ hsh _ hok hpre _;obtain⟨_,_,_,fn',hfn',_,_,_,_,hval⟩:=hok;have e:fn'=fn:=Option.some.inj (hfn'.symm.trans hfn);subst e;obtain⟨⟨⟨ds,gs,before,hw,hc⟩,hx⟩,hz⟩:=hpre;have hw':=DataW.Whole.of_heap (w':=w.forCall tape i) (by rfl) hw;have hL:laidMetH Tryz.prog zX (w.forCall tape i):=laidMetH.of_heap (by rfl) hx
 refine(contract (w.forCall tape i) w.heap.size i.args ds gs before hval hw' (hz.weights hw) (NK hL hsh)).mono fun e W' ⟨v,he,hp⟩=> ?_
 subst he;exact ChangeSpec.post_blind hp
end Go.Proofs.YtneafcdfnhnpnaaGreatDoor
namespace Go.Proofs.YtneafcdfnhnpnaaGreatDoor
open Go.RowKit Go.Lib
theorem xT.mono {n m:Nat} {M:List (List jn)} (h:xT n M) (hn:n≤m):xT m M:=
 ⟨Nat.le_trans h.1 hn,fun r hr=>⟨Nat.le_trans (h.2 r hr).1 hn,fun l hl=>Nat.le_trans ((h.2 r hr).2 l hl) hn⟩⟩
theorem Wp {s t:ByteArray} {j k:Int} (h:Ending.returned (.tuple #[.string s,.int .i64 j])=Ending.returned (.tuple #[.string t,.int .i64 k])):s=t∧j=k:=by
 have h2:=congrArg Array.toList (Value.tuple.inj (Ending.returned.inj h));have h3:=List.cons.inj h2;exact⟨Value.string.inj h3.1,(Value.int.inj (List.cons.inj h3.2).1).2⟩
theorem Ax {q:Rat} (hb:JN q) {t:ByteArray} {k:Int} (h:qS q = .returned (.tuple #[.string t,.int .i64 k])) (w:World):
  Calls Tryz.prog 24 #[.string t,.int .i64 k,.int .i64 0,.string ⟨(jg q).toArray⟩] w fun e w'=>e = .returned (.bool true)∧w=w':=by
 have hl:=GD q hb;unfold qS at h;by_cases ht:kR q
 ·rw[if_pos ht] at h
  have hx:¬xl (jg q)=0:=fun e=>(G7 q).1 e ht
  have h4:xl (jg q)=4:=by
   unfold xl at hx ⊢;split
   ·rfl
   ·rename_i h0;rw[if_neg h0] at hx;exact absurd rfl hx
  have e:=Ay (jg q) w hl h4;have e1:=Wp h;rw[←e1.1,←e1.2];exact e
 ·rw[if_neg ht] at h
  have e:=Az (jg q) w hl ((G7 q).2 ht);have e1:=Wp h;rw[←e1.1,←e1.2];exact e
theorem Wz {X Y:Nat} (hX:2≤X):∀(L:List Rat) (a:Rat),(∀p∈L,Bq X p)→Bq Y a→Bq (X^L.length*Y) (L.foldl (· * ·) a)
 | [],a,_,ha=>by simpa using ha
 | x::t,a,h,ha=>by
  have:=Wz (Y:=Y*X) hX t (a*x) (fun p hp=>h p (by simp[hp])) (ha.mul (h x (by simp)));rw[List.foldl_cons,List.length_cons,Nat.pow_succ,Nat.mul_assoc,Nat.mul_comm X Y];exact this
theorem Lq (e:Int) (w:World):Calls Tryz.prog 41 #[.bool false,.int .i64 e] w fun r w'=>r = .returned (.int .i64 0)∧w=w':=Mh false e w
theorem Lr (e:Int) (w:World):Calls Tryz.prog 41 #[.bool true,.int .i64 e] w fun r w'=>r = .returned (.int .i64 e)∧w=w':=Mh true e w
section
variable {v:Value} {M:List (List jn)} {w:World}
theorem xo.wd (h:xo v M w):Calls Tryz.prog 74 #[v] w fun e w'=>e = .returned (.int .i64 (jA M:Nat))∧w=w':=CU v M w h.hv
def SE (q:Rat) (w:World) (e:Ending) (w':World):Prop:=Below w.heap.size w w' ∧ ∃t k,e = .returned (.tuple #[.string t,.int .i64 k])∧qS q = .returned (.tuple #[.string t,.int .i64 k])
theorem SM {X:Nat} (hX:2≤X) {n:Nat} {V:List (List Rat)} (hb:∀r∈V,∀x∈r,Bq X x) (hl:(X^5^V.length)^(V.length+1)<B9^jS):Qw n V:=by
 have hp:2≤X^5^V.length:=Nat.le_trans hX (Jd hX (Zf _));have hl1:X^5^V.length<B9^jS:=Nat.lt_of_le_of_lt (Jd hp (by omega)) hl;obtain⟨h1,h2,h3,h4⟩:=AK YM (n:=n) hX hb hl1
 have hpl:(ko jd n V).piv.length≤V.length:=by
  have hg:(ko jd n V).piv.length=(ko jd n V).cols.length:=Vc _ _ _ rfl;rw[hg];have:=U9 (F:=jd) n V.length 0 (⟨zO V,[],[],false⟩:jz Rat);simpa [ko] using this
 have hf:∀k,kv (jQ (ko jd n V) k):=by
  intro k;unfold jQ
  have hs:Bq 1 (if (ko jd n V).odd=true then (-1:Rat) else 1):=by
   split
   ·exact⟨by decide,by decide⟩
   ·exact⟨by decide,by decide⟩
  have:=Wz (Y:=1) hp ((ko jd n V).piv.take k) _ (fun p hp=>h4 p (List.mem_of_mem_take hp)) hs;refine this.fit YM ?_;rw[Nat.mul_one];refine Nat.lt_of_le_of_lt ?_ hl;refine yg hp ?_;rw[List.length_take];omega
 refine⟨h1,fun k _=>⟨hf k,(Bq.at hp h4 k).fit YM hl1⟩,?_⟩;unfold qx;split
 ·exact Q6
 ·exact hf _
theorem xo.dt_ok (h:xo v M w) (h6:xT 6 M) (hM:jT M=0) (hw:jA M=M.length):Calls Tryz.prog 83 #[v] w (SE (qx (jA M) (M.map ji)) w):=by
 have hb:=GO h.hs
 have hd:Qw (jA M) (M.map ji):=SM (X:=X7) Ug hb (by
  have hl:=h6.1;rw[List.length_map,←Nat.pow_mul]
  exact Uf _ (Nat.le_trans (Nat.mul_le_mul (Nat.pow_le_pow_right (by decide) hl) (Nat.add_le_add_right hl 1)) (by decide)))
 refine(Qy v M w h.hv (ZB (by decide) h.hs) h.hG (fun _ _=>hd)).mono ?_;rintro e w' ⟨hB,⟨_,_,h1⟩ | ⟨_,h1,_⟩ | ⟨h1,_⟩⟩
 ·refine⟨hB,?_⟩
  rw[h1];unfold qS;split
  ·exact⟨_,_,rfl,rfl⟩
  ·exact⟨_,_,rfl,rfl⟩
 ·exact absurd hw h1
 ·exact absurd hM h1
theorem xo.dt_shape (h:xo v M w) (hM:jT M=0) (hw:jA M≠M.length):Calls Tryz.prog 83 #[v] w (Ma (.string ⟨#[]⟩) (.int .i64 2) w):=by
 refine(Qy v M w h.hv (ZB (by decide) h.hs) h.hG (fun _ k=>absurd k hw)).mono ?_;rintro e w' ⟨hB,⟨_,h1,_⟩ | ⟨_,_,rfl⟩ | ⟨h1,_⟩⟩
 ·exact absurd h1 hw
 ·exact⟨rfl,hB⟩
 ·exact absurd hM h1
theorem xo.dt_bad (h:xo v M w) (hM:jT M≠0):Calls Tryz.prog 83 #[v] w (Ma (.string ⟨#[]⟩) (.int .i64 (jT M)) w):=by
 refine(Qy v M w h.hv (ZB (by decide) h.hs) h.hG (fun k=>absurd k hM)).mono ?_;rintro e w' ⟨hB,⟨h1,_⟩ | ⟨h1,_⟩ | ⟨_,rfl⟩⟩
 ·exact absurd h1 hM
 ·exact absurd h1 hM
 ·exact⟨rfl,hB⟩
theorem xo.dr (h:xo v M w) (hM:jT M=0) (hw:jA M=M.length):Calls Tryz.prog 84 #[v] w (KI (jA M) (M.map ji) w):=by
 have hl:=h.hs.1;exact CE X7 E7 v (M.map ji) (jA M) w (h.hv.num hM) (by rw[List.length_map,hw]) (by omega) (fun r hr=>by rw[Fa hM r hr,Mj]) h.lim.1 (GO h.hs) (by rw[Z0];omega) h.lim.2
end
theorem MO (v:Value) (M:List (List jn)) (w:World) (hv:kd w v M) (hG:jN w):
  Calls Tryz.prog 9 #[v] w fun e w'=>e = .returned (.bool true)∧Below w.heap.size w w':=by
 have AW:=hid (fun (W:World) (hB:Below w.heap.size w W)=>Rg W (hG.below hB));have SH:=hid (fun (W:World) (hB:Below w.heap.size w W)=>CS v M 6 W (hv.below hB) (by decide));obtain⟨Av,cv,hve,_,hvm⟩:=hv.form;by_cases hS:xT 6 M
 ·rw[decide_eq_true hS] at SH
  have MH:=fun (W:World) (hB:Below w.heap.size w W)=>(⟨hv.below hB,hS.mono (by decide),hG.below hB⟩:xo v M W)
  have CI:=hid (fun W hB=>(MH W hB).ci);have WD:=hid (fun W hB=>(MH W hB).wd);by_cases hM:jT M=0
  ·rw[hM] at CI
   by_cases hw:jA M=M.length
   ·have DT:=hid (fun W hB=>(MH W hB).dt_ok hS hM hw)
    have DR:=hid (fun W hB=>(MH W hB).dr hM hw);have WH:=hid (fun W=>Lq 2 W)
    have hb1:((M.length:Int) != (M.length:Int))=false:=by simp
    clear MH hS hM hv hG;rw[hw] at WD DT DR;subst hve;go_enter Tryz.func9,Tryz.ntmps9
    go_wp2_with fail
    refine(AW.out _ (Below.refl _ _)).mono ?_;rintro e w1 ⟨rfl,hB⟩;have HB1:=hid hB;clear hB
    go_wp2_with fail
    refine(SH.out _ HB1.out).mono ?_;rintro e w2 ⟨rfl,hB⟩;have HB2:=hid (bT HB1.out hB);clear hB
    go_wp2_with fail
    refine(DT.out _ HB2.out).mono ?_;rintro e w3 ⟨hB,t3,k3,rfl,hwe⟩;have HB3:=hid (bT HB2.out hB);have HWE:=hid hwe;clear hB hwe
    go_wp2_with fail
    refine(CI.out _ HB3.out).mono ?_;rintro e w4 ⟨rfl,hB⟩;have HB4:=hid (bT HB3.out hB);clear hB
    go_wp2_with fail
    refine(WD.out _ HB4.out).mono ?_;rintro e w5 ⟨rfl,rfl⟩
    go_wp2_with fail
    refine(WH.out _).mono ?_;rintro e w6 ⟨rfl,rfl⟩
    go_wp2_with fail
    refine(DR.out _ HB4.out).mono ?_;rintro e w7 ⟨hB,rfl,hbd⟩;have HB7:=hid (bT HB4.out hB);have NA:=hid (fun W=>Ax hbd HWE.out W);clear hB hbd
    go_wp2_with fail
    refine(NA.out _).mono ?_;rintro e w8 ⟨rfl,rfl⟩
    go_wp2
    go_ret;exact⟨rfl,HB7.out⟩
   ·have DT:=hid (fun W hB=>(MH W hB).dt_shape hM hw)
    have WH:=hid (fun W=>Lr 2 W);have NB:=hid (fun W=>Wh 2 [] W (by decide))
    have hb1:(((jA M:Nat):Int) != (M.length:Int))=true:=by simp;omega
    clear MH hS hM hv hG hw;subst hve;generalize jA M=n at *;go_enter Tryz.func9,Tryz.ntmps9
    go_wp2_with fail
    refine(AW.out _ (Below.refl _ _)).mono ?_;rintro e w1 ⟨rfl,hB⟩;have HB1:=hid hB;clear hB
    go_wp2_with fail
    refine(SH.out _ HB1.out).mono ?_;rintro e w2 ⟨rfl,hB⟩;have HB2:=hid (bT HB1.out hB);clear hB
    go_wp2_with fail
    refine(DT.out _ HB2.out).mono ?_;rintro e w3 ⟨rfl,hB⟩;have HB3:=hid (bT HB2.out hB);clear hB
    go_wp2_with fail
    refine(CI.out _ HB3.out).mono ?_;rintro e w4 ⟨rfl,hB⟩;have HB4:=hid (bT HB3.out hB);clear hB
    go_wp2_with fail
    refine(WD.out _ HB4.out).mono ?_;rintro e w5 ⟨rfl,rfl⟩
    go_wp2_with fail
    refine(WH.out _).mono ?_;rintro e w6 ⟨rfl,rfl⟩
    go_wp2_with fail
    refine(NB.out _).mono ?_;rintro e w8 ⟨rfl,rfl⟩
    go_wp2
    go_ret;exact⟨rfl,HB4.out⟩
  ·have DT:=hid (fun W hB=>(MH W hB).dt_bad hM)
   clear MH hS hv hG WD;generalize jT M=E at *
   have hb1:(E==0)=false:=by simpa using hM
   have hb2:(E != 0)=true:=by simpa using hM
   have hb3:(E==E)=true:=by simp
   have NB:=hid (fun W=>Wh E [] W hM);clear hM;subst hve;go_enter Tryz.func9,Tryz.ntmps9
   go_wp2_with fail
   refine(AW.out _ (Below.refl _ _)).mono ?_;rintro e w1 ⟨rfl,hB⟩;have HB1:=hid hB;clear hB
   go_wp2_with fail
   refine(SH.out _ HB1.out).mono ?_;rintro e w2 ⟨rfl,hB⟩;have HB2:=hid (bT HB1.out hB);clear hB
   go_wp2_with fail
   refine(DT.out _ HB2.out).mono ?_;rintro e w3 ⟨rfl,hB⟩;have HB3:=hid (bT HB2.out hB);clear hB
   go_wp2_with fail
   refine(CI.out _ HB3.out).mono ?_;rintro e w4 ⟨rfl,hB⟩;have HB4:=hid (bT HB3.out hB);clear hB
   go_wp2_with fail
   refine(NB.out _).mono ?_;rintro e w8 ⟨rfl,rfl⟩
   go_wp2
   go_ret;exact⟨rfl,HB4.out⟩
 ·rw[decide_eq_false hS] at SH
  clear hS hv hG;subst hve;go_enter Tryz.func9,Tryz.ntmps9
  go_wp2_with fail
  refine(AW.out _ (Below.refl _ _)).mono ?_;rintro e w1 ⟨rfl,hB⟩;have HB1:=hid hB;clear hB
  go_wp2_with fail
  refine(SH.out _ HB1.out).mono ?_;rintro e w2 ⟨rfl,hB⟩;have HB2:=hid (bT HB1.out hB);clear hB
  go_wp2_with fail
  refine(AW.out _ HB2.out).mono ?_;rintro e w3 ⟨rfl,hB⟩;have HB3:=hid (bT HB2.out hB);clear hB
  go_wp2
  go_ret;exact⟨rfl,HB3.out⟩
end Go.Proofs.YtneafcdfnhnpnaaGreatDoor
namespace Go.Proofs.YtneafcdfnhnpnaaGreatDoor
open Go.ChangeShapes Go.WideShapes Go.ChangeAt Go.RowKit Go.Lib
theorem RF:Tryz.prog.cellsOf 85=1:=by kernel_rfl
theorem Rx:Tryz.prog.bytesOf 85=24:=by kernel_rfl
theorem UC:Tryz.prog.cellsOf 22=1:=by kernel_rfl
theorem Ry:Tryz.prog.bytesOf 22=16:=by kernel_rfl
theorem FW (s:ByteArray):s=⟨s.data.toList.toArray⟩:=by cases s;simp
theorem AM {H:Type} {enc:TypeId×Value→H} {W:World} {a0:Option Addr} {len cap fuel:Nat} {x:DataW H×List MemPlace} (hf:DataW.trod enc Tryz.prog W 0 (fun _=>true) true fuel 85 [.slice a0 len cap]=some x)
  (hw:∀elems spare,x.1 = .slice elems spare→(elems.length+spare.length)*16≤reachBytes):∃L:List jn,jB W (.slice a0 len cap) (jO L):=by
 rcases Go.Deep.open_strs Tryz.underlying85 Tryz.underlying22 UC hf with ⟨hcs,hx⟩ | ⟨a,len',cap',m,Sx,hcs,_,hl,hm,hmm,hx,hcell⟩
 ·simp at hcs
  obtain⟨rfl,rfl,rfl⟩:=hcs;exact⟨[],Sl.nil.wide⟩
 ·simp at hcs
  obtain⟨rfl,rfl,rfl⟩:=hcs;simp only[if_true] at hmm;subst hmm;have hsz:=hw _ _ (by rw[hx]);simp only[List.length_map,List.length_range,reachBytes] at hsz;obtain⟨b,off,spot⟩:=a
  have hll:(jO ((List.range len).map fun i=>(Sx i).data.toList)).length=len:=by rw[qg];simp
  refine⟨(List.range len).map fun i=>(Sx i).data.toList,some ⟨b,off,spot⟩,m,by rw[hll],by rw[hll];exact hl,by rw[hll];omega,fun h0=> ?_⟩;rw[hll] at h0
  have hspot:spot=none:=by simpa [Addr.add] using World.cell?_spot (hcell 0 (by omega)).1
  subst hspot;have h00:=(hcell 0 (by omega)).1;rw[Lib.add_plain] at h00;refine⟨b,off,rfl,Yd h00,fun j hj=> ?_⟩;rw[hll] at hj;have h1:=(hcell j (by omega)).1;rw[Lib.add_plain] at h1;rw[h1,JC _ j (by simpa using hj)];simp only[List.getElem?_map,List.getElem?_range hj,Option.map_some,Option.getD_some];unfold sv;rw[←FW]
theorem AL {H:Type} {enc:TypeId×Value→H} {W:World} {a0:Option Addr} {len cap fuel:Nat} {x:DataW H×List MemPlace} (hf:DataW.trod enc Tryz.prog W 0 (fun _=>true) true fuel 74 [.slice a0 len cap]=some x)
  (hw:∀n∈x.1.weights Tryz.prog 74,n≤reachBytes):∃M,kd W (.slice a0 len cap) M:=by
 rcases Go.Deep.open_slice1 Tryz.underlying74 RF hf with ⟨hcs,hx⟩ | ⟨a,len',cap',m,n,V,D,Pl,hcs,_,hl,hm,hmm,hx,hall⟩
 ·simp at hcs
  obtain⟨rfl,rfl,rfl⟩:=hcs;exact⟨[],[],Sl.nil.wide,rfl,fun i r h=>by simp at h⟩
 ·simp at hcs
  obtain⟨rfl,rfl,rfl⟩:=hcs;simp only[if_true] at hmm;subst hmm
  have hx1:x.1 = .slice ((List.range len).map D) ((List.range (m-len)).map fun j=>D (len+j)):=by rw[hx]
  rw[hx1] at hw
  have hcap:m≤140737488355328:=by
   have:=hw ((((List.range len).map D).length+((List.range (m-len)).map fun j=>D (len+j)).length)*Tryz.prog.bytesOf 85) (by simp[DataW.weights,Tryz.underlying74]);rw[Rx] at this;simp[reachBytes] at this;omega
  have hrow:∀i,i<len → ∃L:List jn,jB W (V i) (jO L):=by
   intro i hi;obtain⟨_,ht⟩:=hall i (by omega)
   have hwi:∀n∈(D i).weights Tryz.prog 85,n≤reachBytes:=fun n hn=>hw n (by
    have hm:D i∈(List.range len).map D:=List.mem_map_of_mem (List.mem_range.2 hi);have:=Md hn hm;simp[DataW.weights,Tryz.underlying74]
    exact .inr (.inl this))
   have hV:∃b l c,V i = .slice b l c:=by
    rcases Go.Deep.open_strs Tryz.underlying85 Tryz.underlying22 UC ht with ⟨hcs,_⟩ | ⟨b,l,c,m,Sx,hcs,_⟩
    ·exact⟨none,0,0,by simpa using hcs⟩
    ·exact⟨some b,l,c,by simpa using hcs⟩
   obtain⟨b,l,c,hVi⟩:=hV;rw[hVi] at ht ⊢;refine AM ht (fun elems spare hd=> ?_)
   have:=hwi ((elems.length+spare.length)*Tryz.prog.bytesOf 22) (by
    have hd':D i = .slice elems spare:=hd
    rw[hd'];simp[DataW.weights,Tryz.underlying85])
   rwa [Ry] at this
  obtain⟨f,hfr⟩:=Go.Deep.choose_lt (α:=List jn) hrow;obtain⟨b,off,spot⟩:=a;refine⟨(List.range len).map f,(List.range len).map V,⟨some ⟨b,off,spot⟩,m,by simp,by simp;exact hl,by simp;omega,fun h0=> ?_⟩,by simp,fun i r hr=> ?_⟩
  ·rw[List.length_map,List.length_range] at h0
   have hspot:spot=none:=by simpa [Addr.add] using World.cell?_spot (hall 0 (by omega)).1
   subst hspot;have h00:=(hall 0 (by omega)).1;rw[Lib.add_plain] at h00;refine⟨b,off,rfl,Yd h00,fun j hj=> ?_⟩;rw[List.length_map,List.length_range] at hj;have h1:=(hall j (by omega)).1;rw[Lib.add_plain] at h1;rw[h1];simp[hj]
  ·have hi:i<len:=by
    have:=(List.getElem?_eq_some_iff.1 hr).1;simpa using this
   have hr':f i=r:=by simpa [hi] using hr
   exact⟨V i,by simp[hi],by rw[←hr'];exact hfr i hi⟩
theorem Tc (os:Os) (started:os.Started) (H:Type) (enc:TypeId×Value→H):
  ReturnsInHanded {} Tryz.checked os 9 .any (fun w args=>(Rows.algebraDeterminantsSpec.pre enc Tryz.checked.prog Tryz.f9 [] false w args∧laidMetH Tryz.prog zX w)∧sizedMet enc Tryz.checked.prog Tryz.f9 (OpenSpec.ofChange Rows.algebraDeterminantsSpec) false w args)
   (Rows.algebraDeterminantsSpec.post enc Tryz.checked.prog Tryz.f9 false true false false):=by
 refine C5 started (by kernel_rfl) Tryz.func9
  (ChangeSpec.witness_shaped (enc:=enc) (C:=Tryz.checked) (os:=os) (X:=fun w _=>laidMetH Tryz.prog zX w) false (World.doorLaid Tryz.prog 400 os) #[.slice none 0 0] 8 rfl (World.shaped_of_RefB (by kernel_rfl) (by kernel_rfl)) (by kernel_rfl) (by kernel_rfl) (by kernel_rfl) (Ty os _)) ?_
 intro W base args ds gs before hval0 hW hsz hG;have hval:∀(j:Nat) t v,Tryz.f9.params[j]? =some t→args[j]? =some v→Value.okWide Tryz.prog W .any base t v:=hval0;have hW':=hW;obtain⟨p,q,hA0,hV,rfl,hfz,hnd⟩:=hW;have hA:DataW.TrodAll enc Tryz.prog W 0 (fun _=>true) true Tryz.f9.params.toList args.toList ds p:=hA0;rw[Tryz.params9] at hA hval hsz;obtain⟨v0,d0,rfl,rfl,h0⟩:=trodAll_one hA;obtain⟨rfl,rfl⟩:=trodVars_none hV;obtain⟨a0,l0,c0,rfl⟩:=okWide_slice Tryz.underlying74 (hval 0 74 v0 rfl rfl);have h0k:=h0;obtain⟨fuel0,hf0⟩:=h0;clear hA0 hval0;simp only[List.append_nil] at hW' hsz
 have hlt:∀x∈p,x.block<W.heap.size:=fun x hx=>by simpa using hW'.lt x (by simpa using hx)
 obtain⟨M,hM⟩:=AL hf0 (fun n hn=>by
  have:=List.all_eq_true.1 hsz n (DataW.weights_mem_each (j:=0) (t:=74) rfl rfl n hn)
  simpa using this)
 refine(MO _ M W hM hG).mono fun e W' ⟨he,bel⟩=> ?_
 subst he;refine⟨_,rfl,_,_,_,[],p,[],hW',?_,?_,?_,bel.frame _,fun h=>by cases h⟩
 ·exact trodAll_mk1 (shut_bool Tryz.underlying4 true)
 ·exact trodAll_mk1 (Below.trod Dt (by kernel_rfl) (of_decide_eq_true (by kernel_rfl)) h0k bel (fun x hx=>hlt x (by simp[hx])))
 ·rfl
