/- Closed calls by reckoning: append is what the reckoning says. -/
import Derived.Test.YtlapnehfjklpoaaEvG
namespace Go.Proofs.Ytlapnehfjklpoaa
open Go.RowKit

section
variable {P : Program} {B : Nat} {ρ ρ' : Nat → Place} {N N' : Nat} {h h' : Nat → Option Blk} {w w' : World} {W W' : List Nat} {tm : Tm} {a : Act} {s s' : St} {o : Oper}

theorem append_exec {x y : Operand} {t tx : TypeId} (ho : o.op = .call ⟨.builtin .append, #[x, y], #[t, tx]⟩) {r : Value} (hr : (Builtin.append_ #[t, tx] o.type #[a.eval x, a.eval y]).run P w = .ok r w') :
    (execOp a.eval o).run P w = .ok (.value r) w' := by
  unfold execOp
  simp only [ho]
  obtain ⟨cs, hq⟩ : ∃ cs, resolve a.eval ⟨.builtin .append, #[x, y], #[t, tx]⟩ o.type = pure { target := Target.builtin .append #[t, tx] o.type cs, args := #[a.eval x, a.eval y] } :=
    ⟨_, by unfold resolve; simp only [List.map_toArray, List.map_cons, List.map_nil]; rfl⟩
  rw [hq, Sem.run_bind, Sem.run_pure]
  exact run_v hr
theorem zeroCells_size (z : Array Value) (n : Nat) : (Builtin.zeroCells z n).size = n * z.size := by
  unfold Builtin.zeroCells; simp
/-- a new row behind an append: what is known of it -/
theorem grow_new (R : Rel B ρ N h w) {cells : List Value} {cells' : List Value} {z c' : Nat} {el : TypeId} {rest : Array Value} {need : Nat} {t : Tr Value} (hc : VRels ρ N cells cells') (hl : cells.length = need * z) (hr : rest.size = (c' - need) * z) (hge : need ≤ c')
    (ht : trOf .nil 0 cells = some t) :
    ∃ ρ', Rel B ρ' (N + 1) (upd h N (some ⟨need * z, z, false, el, t, .cells⟩)) (w.drew.alloc (.cells (cells'.toArray ++ rest) el)) ∧ Fr ρ N h w ρ' (N + 1) (upd h N (some ⟨need * z, z, false, el, t, .cells⟩)) (w.drew.alloc (.cells (cells'.toArray ++ rest) el)) [] ∧
      VRel ρ' (N + 1) (.slice (some ⟨N, 0, none⟩) need need) (.slice (some ⟨w.heap.size, 0, none⟩) need c') := by
  have hmul : need * z + (c' - need) * z = c' * z := by rw [← Nat.add_mul, show need + (c' - need) = c' by omega]
  have hsz : (cells'.toArray ++ rest).size = c' * z := by rw [Array.size_append, List.size_toArray, ← hc.length, hl, hr]; exact hmul
  obtain ⟨ρ', e1, R', F'⟩ := R.new ⟨need * z, z, false, el, t, .cells⟩ rfl (cells'.toArray ++ rest) (by rw [hsz]; show need * z ≤ _; omega) (fun i v hi hv => by
    have hv := trOf_nil ht hv
    obtain ⟨v', e2, r⟩ := hc.get hv
    have hlt : i < cells'.length := by
      rcases Nat.lt_or_ge i cells'.length with q | q
      · exact q
      · rw [List.getElem?_eq_none q] at e2; cases e2
    exact ⟨v', by rw [Array.getElem?_append_left (by simpa using hlt)]; simpa using e2, r⟩) (w' := w.drew.alloc (.cells (cells'.toArray ++ rest) el)) (Thaw.none _) rfl rfl rfl rfl
  refine ⟨ρ', R', F', ?_⟩
  have := VRel.slice (ρ := ρ') (N := N + 1) N 0 need need c' (Nat.lt_succ_self N) (Nat.le_refl _) hge (by rw [e1]; intro q; cases q) (by rw [e1]; show 0 + c' * z ≤ (cells'.toArray ++ rest).size; omega)
  rw [e1] at this
  exact this
theorem tr_upd {t t' : Tr Blk} {k : Nat} {x : Option Blk} (hh : Tr.put 32 t k x = some t') : t'.get = upd t.get k x := by
  funext j
  rw [Tr.get_put 32 _ _ _ _ _ hh]; rfl
theorem fits_small {need old bytes : Nat} (h : old < need) (h1 : need ≤ 1000000) (h2 : bytes ≤ 1000000) : Builtin.nextslicecap need old * bytes ≤ 281474976710656 :=
  growslice_fits h (Nat.le_trans (Nat.mul_le_mul h1 h2) (by omega))

theorem evAppend_ok (R : Rel B ρ s.N s.h.get w) (T : TRel ρ s.N tm a) {t tx : TypeId} {x y : Operand} (ho : o.op = .call ⟨.builtin .append, #[x, y], #[t, tx]⟩) {u u2 v : Value} (hx : opnd tm x = some u) (hy : opnd tm y = some u2)
    (e : evAppend P s t tx u u2 = some (v, s')) : Yl P B ρ s w (execOp a.eval o) v s' := by
  simp only [evAppend] at e
  split at e
  · rename_i el hu
    split at e
    · rename_i i hi
      split at e
      · rename_i zv hz
        rw [cond_eq_ite] at e
        split at e
        · rename_i hc
          simp only [Bool.and_eq_true, Nat.beq_eq, Nat.ble_eq] at hc
          obtain ⟨hzs, hby⟩ := hc
          split at e
          · rename_i m news hsrc
            obtain ⟨news', hn, hS, hml⟩ := evSrc_ok R (T.opnd hy) hsrc
            have hml' : news'.length = m * i.size := by rw [← hn.length]; exact hml
            split at e
            · -- nil
              have ep := (T.opnd hx).slice0.2.2
              split at e
              · cases e
                have hnil : news' = [] := by
                  have : news'.length = 0 := by rw [hml', Nat.zero_mul]
                  simpa using this
                subst hnil
                refine Yl.flat R (append_exec ho ?_) (d := 0) rfl
                rw [ep]
                exact run_append_nothing w t tx o.type el i hu hi none 0 0 (Nat.le_refl _) _ hS
              · rename_i hm0
                rw [cond_eq_ite] at e
                split at e
                · rename_i hm1
                  rw [Nat.ble_eq] at hm1
                  split at e
                  · rename_i s1 h1
                    cases e
                    simp only [newB] at h1
                    split at h1
                    · rename_i tr htr
                      split at h1
                      · rename_i h2 hh
                        cases h1
                        have hpos : 0 < 0 + m := by have : m ≠ 0 := hm0; omega
                        have hrun := run_append_grow_src (P := P) w t tx o.type el i zv hu hi hz none 0 0 [] (run_firstCells_none w.drew i.size 0 0 0) (a.eval y) m news' hS hpos (by omega) (fits_small hpos (by omega) hby)
                        obtain ⟨ρ', R', F', V'⟩ := grow_new (el := el) (rest := Builtin.zeroCells zv.cells (grownCap w (0 + m) 0 el - (0 + m))) (need := m) (c' := grownCap w (0 + m) 0 el) R hn hml (by rw [zeroCells_size, hzs, Nat.zero_add]) (by have := grownCap_ge w (0 + m) 0 el; omega) htr
                        have hu2 := tr_upd hh
                        rw [hml] at hu2
                        rw [← hu2] at R' F'
                        refine ⟨fun j hj => hj, ρ', _, _, _, append_exec ho (by rw [ep]; exact hrun), .inl rfl, ?_, R', F'.weaken (fun q hq => by simp at hq)⟩
                        rw [Nat.zero_add] at V' ⊢
                        exact V'
                      · cases h1
                    · cases h1
                  · cases e
                · cases e
            · rename_i id off k c
              obtain ⟨_, hid, hkc, a', c', e1, hcc, hsp, hcase⟩ := (T.opnd hx).slice1
              obtain ⟨b', off', sp'⟩ := a'
              simp only at hsp
              subst hsp
              rw [cond_eq_ite] at e
              split at e
              · rename_i hroom
                rw [Nat.ble_eq] at hroom
                split at e
                · cases e
                  have hnil : news' = [] := by
                    have : news'.length = 0 := by rw [hml', Nat.zero_mul]
                    simpa using this
                  subst hnil
                  refine Yl.same R (append_exec ho (r := .slice (some ⟨b', off', none⟩) k c') ?_) (by rw [← e1]; exact T.opnd hx)
                  rw [e1]
                  exact run_append_nothing w t tx o.type el i hu hi _ k c' (by omega) _ hS
                · rename_i hm0
                  split at e
                  · rename_i b hb
                    obtain ⟨hb, hk⟩ := cget_ok hb
                    rw [cond_eq_ite] at e
                    split at e
                    · rename_i hbz
                      rw [Nat.beq_eq] at hbz
                      split at e
                      · rename_i t1 ht
                        split at e
                        · rename_i h1 hh
                          cases e
                          rcases hcase with ⟨q0, q1, q2⟩ | ⟨_, q2, _⟩
                          · cases q0
                            obtain ⟨g1, g2, R', F'⟩ := Rel.wr _ _ b s.h.get w (off + k * i.size) t1 id R hb hk hn ht
                            have hu2 := tr_upd hh
                            rw [← hu2] at R' F'
                            have ea : off + k * i.size + (ρ id).d = off + (ρ id).d + k * i.size := by omega
                            rw [ea] at g2 R' F'
                            have hrun := run_append_room_src (P := P) w t tx o.type el i hu hi (ρ id).b (off + (ρ id).d) k c' (a.eval y) m news' hS (by omega) g2 (fun j hj => R.unfrozen hb hk (g2 j hj))
                            refine ⟨fun j hj => List.mem_cons_of_mem _ hj, ρ, _, _, _, append_exec ho (by rw [e1]; exact hrun), .inl rfl, ?_, R', F'.weaken (fun i hi => by rw [List.mem_singleton.1 hi]; exact List.mem_cons_self)⟩
                            exact .slice id off (k + m) c c' hid hroom hcc q1 q2
                          · have : m = 0 := by omega
                            exact absurd this hm0
                        · cases e
                      · cases e
                    · cases e
                  · cases e
              · rename_i hroom
                rw [Nat.ble_eq] at hroom
                split at e
                · rename_i b hb
                  obtain ⟨hb, hk⟩ := cget_ok hb
                  rw [cond_eq_ite] at e
                  split at e
                  · rename_i hcond
                    simp only [Bool.and_eq_true, Nat.beq_eq, Nat.ble_eq] at hcond
                    obtain ⟨⟨hbz, hk1⟩, hbe⟩ := hcond
                    split at e
                    · rename_i olds hold
                      have hol := rd_at b _ off olds hold
                      obtain ⟨olds', r1, r2⟩ := R.rd hb hk hold
                      have hol' : olds'.length = k * i.size := by rw [← r1.length]; exact hol.1
                      have hall : (olds ++ news).length = (k + m) * i.size := by rw [List.length_append, hol.1, hml, Nat.add_mul]
                      -- the base's cells, in whichever way it is known
                      have hfirst : (Builtin.firstCells i.size k (.slice (some ⟨b', off', none⟩) k c')).run P w.drew = .ok olds'.toArray w.drew := by
                        rcases hcase with ⟨q0, _, _⟩ | ⟨q1, _, _⟩
                        · cases q0
                          exact run_firstCells_some w.drew i.size k _ k c' olds' hol' (fun j v hv => by rw [Addr.add_mid]; exact r2 j v hv)
                        · subst q1
                          have hnil : olds' = [] := by
                            have : olds'.length = 0 := by rw [hol', Nat.zero_mul]
                            simpa using this
                          subst hnil
                          exact run_firstCells_some w.drew i.size 0 _ 0 c' [] (by simp) (fun j v hv => by simp at hv)
                      have hgrow : ∀ tr, trOf .nil 0 (olds ++ news) = some tr → c' < k + m → ∀ (h : Nat → Option Blk), Rel B ρ s.N h w → ∃ r w2 ρ', (Builtin.append_ #[t, tx] o.type #[a.eval x, a.eval y]).run P w = .ok r w2 ∧ Rel B ρ' (s.N + 1) (upd h s.N (some ⟨(k + m) * i.size, i.size, false, el, tr, .cells⟩)) w2 ∧ Fr ρ s.N h w ρ' (s.N + 1) (upd h s.N (some ⟨(k + m) * i.size, i.size, false, el, tr, .cells⟩)) w2 [] ∧ VRel ρ' (s.N + 1) (.slice (some ⟨s.N, 0, none⟩) (k + m) (k + m)) r := by
                        intro tr htr hlt h Rh
                        have hrun := run_append_grow_src (P := P) w t tx o.type el i zv hu hi hz (some ⟨b', off', none⟩) k c' olds' hfirst (a.eval y) m news' hS hlt (by omega) (fits_small hlt hk1 hby)
                        have hge := grownCap_ge w (k + m) c' el
                        obtain ⟨ρ', R', F', V'⟩ := grow_new (el := el) (rest := Builtin.zeroCells zv.cells (grownCap w (k + m) c' el - (k + m))) (need := k + m) (c' := grownCap w (k + m) c' el) Rh (r1.append hn) hall (by rw [zeroCells_size, hzs]) hge htr
                        exact ⟨_, _, ρ', by rw [e1]; exact hrun, R', F', V'⟩
                      rw [cond_eq_ite] at e
                      split at e
                      · rename_i hex
                        split at e
                        · rename_i s1 h1
                          cases e
                          simp only [newB] at h1
                          split at h1
                          · rename_i tr htr
                            split at h1
                            · rename_i h2 hh
                              cases h1
                              have hlt : c' < k + m := by
                                rcases hcase with ⟨q0, q1, _⟩ | ⟨q1, q2, q3⟩
                                · obtain ⟨_, _, _, _, _, p5, _⟩ := R.cb hb hk
                                  have := q1 (by rw [p5]; exact hex)
                                  omega
                                · omega
                              obtain ⟨r, w2, ρ', g1, R', F', V'⟩ := hgrow tr htr hlt _ R
                              have hu2 := tr_upd hh
                              rw [hall] at hu2
                              rw [← hu2] at R' F'
                              exact ⟨fun j hj => hj, ρ', _, _, _, append_exec ho g1, .inl rfl, V', R', F'.weaken (fun q hq => by simp at hq)⟩
                            · cases h1
                          · cases h1
                        · cases e
                      · split at e
                        · rename_i tr htr
                          split at e
                          · rename_i h1 hh1
                            split at e
                            · rename_i h2 hh2
                              cases e
                              have hu1 := tr_upd hh1
                              have hu2 := tr_upd hh2
                              rw [hu1] at hu2
                              by_cases hlt : c' < k + m
                              · obtain ⟨Rk, Fk⟩ := R.kill id
                                obtain ⟨r, w2, ρ', g1, R', F', V'⟩ := hgrow tr htr hlt _ Rk
                                have F2 := Fk.trans F'
                                rw [← hu2] at R' F2
                                exact ⟨fun j hj => List.mem_cons_of_mem _ hj, ρ', _, _, _, append_exec ho g1, .inl rfl, V', R', F2.weaken (fun q hq => by
                                  have : q = id := by simpa using hq
                                  rw [this]; exact List.mem_cons_self)⟩
                              · rcases hcase with ⟨q0, q1, q2⟩ | ⟨q1, q2, q3⟩
                                · cases q0
                                  obtain ⟨g2, ρ', R', F', V'⟩ := R.appIn (c' := c') hb hk hbz.symm hol.1 hol.2 hn hml (by omega) q2 htr
                                  have hrun := run_append_room_src (P := P) w t tx o.type el i hu hi (ρ id).b (off + (ρ id).d) k c' (a.eval y) m news' hS (by omega) g2 (fun j hj => R.unfrozen hb hk (g2 j hj))
                                  rw [hbe, ← hu2] at R' F'
                                  exact ⟨fun j hj => List.mem_cons_of_mem _ hj, ρ', _, _, _, append_exec ho (by rw [e1]; exact hrun), .inl rfl, V', R', F'.weaken (fun q hq => by rw [List.mem_singleton.1 hq]; exact List.mem_cons_self)⟩
                                · omega
                            · cases e
                          · cases e
                        · cases e
                    · cases e
                  · cases e
                · cases e
            · cases e
          · cases e
        · cases e
      · cases e
    · cases e
  · cases e
end
end Go.Proofs.Ytlapnehfjklpoaa
