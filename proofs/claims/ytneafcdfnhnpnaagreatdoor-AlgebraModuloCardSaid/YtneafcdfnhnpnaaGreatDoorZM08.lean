/- The statement on AlgebraModulo: its row, from inside. -/
import Derived.Test.YtneafcdfnhnpnaaGreatDoorZM07
import Derived.Test.YtneafcdfnhnpnaaGreatDoorZ20
import Derived.Deep.Slices
namespace Go.Proofs.YtneafcdfnhnpnaaGreatDoor
open Go.ChangeShapes Go.WideShapes Go.ChangeAt Go.RowKit Go.Lib

theorem cells_sli : Tryz.prog.cellsOf 50 = 1 := by kernel_rfl
theorem bytes_sli : Tryz.prog.bytesOf 50 = 24 := by kernel_rfl
theorem wAll_mem {H : Type} {P : Program} {e : TypeId} {d : DataW H} {n : Nat} (hn : n ∈ d.weights P e) : ∀ {elems : List (DataW H)}, d ∈ elems → n ∈ DataW.weightsAll P e elems
  | x :: r, h => by
    simp only [DataW.weightsAll, List.mem_append]
    rcases List.mem_cons.1 h with rfl | h
    · exact .inl hn
    · exact .inr (wAll_mem hn h)
/-- a list of lists of integers that came in -/
theorem open_mat {H : Type} {enc : TypeId × Value → H} {W : World} {a0 : Option Addr} {len cap fuel : Nat} {x : DataW H × List MemPlace} (hf : DataW.trod enc Tryz.prog W 0 (fun _ => true) true fuel 57 [.slice a0 len cap] = some x)
    (hw : ∀ n ∈ x.1.weights Tryz.prog 57, n ≤ reachBytes) : ∃ M, TblS W (.slice a0 len cap) M := by
  rcases Go.Deep.open_slice1 Tryz.underlying57 cells_sli hf with ⟨hcs, hx⟩ | ⟨a, len', cap', m, n, V, D, Pl, hcs, _, hl, hm, hmm, hx, hall⟩
  · simp at hcs
    obtain ⟨rfl, rfl, rfl⟩ := hcs
    exact ⟨[], [], Sl.nil, rfl, fun i r h => by simp at h⟩
  · simp at hcs
    obtain ⟨rfl, rfl, rfl⟩ := hcs
    simp only [if_true] at hmm
    subst hmm
    have hx1 : x.1 = .slice ((List.range len).map D) ((List.range (m - len)).map fun j => D (len + j)) := by rw [hx]
    rw [hx1] at hw
    have hcap : m ≤ 140737488355328 := by
      have := hw ((((List.range len).map D).length + ((List.range (m - len)).map fun j => D (len + j)).length) * Tryz.prog.bytesOf 50) (by simp [DataW.weights, Tryz.underlying57])
      rw [bytes_sli] at this
      simp [reachBytes] at this
      omega
    have hrow : ∀ i, i < len → ∃ L, Sl W 1 (V i) (icells L) := by
      intro i hi
      obtain ⟨_, ht⟩ := hall i (by omega)
      have hwi : ∀ n ∈ (D i).weights Tryz.prog 50, n ≤ reachBytes := fun n hn => hw n (by
        have hm : D i ∈ (List.range len).map D := List.mem_map_of_mem (List.mem_range.2 hi)
        have := wAll_mem hn hm
        simp [DataW.weights, Tryz.underlying57]
        exact .inr (.inl this))
      have hV : ∃ b l c, V i = .slice b l c := by
        rcases open_ints Tryz.underlying50 Tryz.underlying3 cells_int ht with ⟨hcs, _⟩ | ⟨b, l, c, zs, hcs, _⟩
        · exact ⟨none, 0, 0, by simpa using hcs⟩
        · exact ⟨some b, l, c, by simpa using hcs⟩
      obtain ⟨b, l, c, hVi⟩ := hV
      rw [hVi] at ht ⊢
      refine open_list ht (fun elems spare hd => ?_)
      have := hwi ((elems.length + spare.length) * Tryz.prog.bytesOf 3) (by
        have hd' : D i = .slice elems spare := hd
        rw [hd']; simp [DataW.weights, Tryz.underlying50])
      rwa [bytes_int] at this
    obtain ⟨f, hfr⟩ := Go.Deep.choose_lt (α := List Int) hrow
    obtain ⟨b, off, spot⟩ := a
    refine ⟨(List.range len).map f, (List.range len).map V, ⟨some ⟨b, off, spot⟩, len, m, rfl, hl, hcap, by simp, fun h0 => ?_⟩, by simp, fun i r hr => ?_⟩
    · have hspot : spot = none := by simpa [Addr.add] using World.cell?_spot (hall 0 (by omega)).1
      subst hspot
      have h00 := (hall 0 (by omega)).1
      rw [Lib.add_plain] at h00
      refine ⟨b, off, rfl, cell_in h00, fun j u hu => ?_⟩
      have hj : j < len := by
        have := (List.getElem?_eq_some_iff.1 hu).1
        simpa using this
      have h1 := (hall j (by omega)).1
      rw [Lib.add_plain] at h1
      rw [h1, ← hu]
      simp [hj]
    · have hi : i < len := by
        have := (List.getElem?_eq_some_iff.1 hr).1
        simpa using this
      have hr' : f i = r := by simpa [hi] using hr
      exact ⟨V i, by simp [hi], by rw [← hr']; exact hfr i hi⟩

set_option maxRecDepth 100000 in
theorem modulo_lifted (os : Os) (started : os.Started) (H : Type) (enc : TypeId × Value → H) :
    ReturnsInHanded {} Tryz.checked os 10 .any (fun w args => (Rows.algebraModuloSpec.pre enc Tryz.checked.prog Tryz.f10 [] false w args ∧ laidMetH Tryz.prog laid5 w) ∧ sizedMet enc Tryz.checked.prog Tryz.f10 (OpenSpec.ofChange Rows.algebraModuloSpec) false w args)
      (Rows.algebraModuloSpec.post enc Tryz.checked.prog Tryz.f10 false true false false) := by
  refine returns_shaped started (by kernel_rfl) Tryz.func10
    (ChangeSpec.witness_shaped (enc := enc) (C := Tryz.checked) (os := os) (X := fun w _ => laidMetH Tryz.prog laid5 w) false (World.doorLaid Tryz.prog 400 os) #[.slice none 0 0, .int .i64 0] 8 rfl (World.shaped_of_RefB (by kernel_rfl) (by kernel_rfl)) (by kernel_rfl) (by kernel_rfl) (by kernel_rfl) (door_met os _)) ?_
  intro W base args ds gs before hval0 hW hsz hG
  have hval : ∀ (j : Nat) t v, Tryz.f10.params[j]? = some t → args[j]? = some v → Value.okWide Tryz.prog W .any base t v := hval0
  have hW' := hW
  obtain ⟨p, q, hA0, hV, rfl, hfz, hnd⟩ := hW
  have hA : DataW.TrodAll enc Tryz.prog W 0 (fun _ => true) true Tryz.f10.params.toList args.toList ds p := hA0
  rw [Tryz.params10] at hA hval hsz
  obtain ⟨v0, v1, d0, d1, p0, p1, rfl, rfl, rfl, h0, h1⟩ := trodAll_two hA
  obtain ⟨rfl, rfl⟩ := trodVars_none hV
  obtain ⟨a0, l0, c0, rfl⟩ := okWide_slice Tryz.underlying57 (hval 0 57 v0 rfl rfl)
  have h0k := h0
  have h1k := h1
  obtain ⟨k, rfl, rfl, rfl, wk⟩ := open_int Tryz.underlying3 (hval 1 3 v1 rfl rfl) h1
  obtain ⟨fuel0, hf0⟩ := h0
  clear hA0 hval0
  simp only [List.append_nil] at hW' hsz
  have hlt : ∀ x ∈ p0 ++ [], x.block < W.heap.size := fun x hx => by simpa using hW'.lt x (by simpa using hx)
  obtain ⟨M, hM⟩ := open_mat hf0 (fun n hn => by
    have := List.all_eq_true.1 hsz n (DataW.weights_mem_each (j := 0) (t := 57) rfl rfl n hn)
    simpa using this)
  refine (AlgebraModulo_c _ M k W hM hG).mono fun e W' ⟨he, bel⟩ => ?_
  subst he
  refine ⟨_, rfl, _, _, _, [], p0 ++ [], [], hW', ?_, ?_, ?_, bel.frame _, fun h => by cases h⟩
  · exact trodAll_mk1 (shut_bool Tryz.underlying4 true)
  · exact trodAll_mk2 (Below.trod laid_out (by kernel_rfl) (of_decide_eq_true (by kernel_rfl)) h0k bel (fun x hx => hlt x (by simp [hx]))) (Below.trod laid_out (by kernel_rfl) (of_decide_eq_true (by kernel_rfl)) h1k bel (fun x hx => by cases hx))
  · rfl
end Go.Proofs.YtneafcdfnhnpnaaGreatDoor
